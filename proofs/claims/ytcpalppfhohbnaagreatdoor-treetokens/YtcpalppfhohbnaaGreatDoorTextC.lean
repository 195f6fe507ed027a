/- Package lex: sameTokens, Text, by contracts. -/
import Derived.Test.YtcpalppfhohbnaaGreatDoorTextB
namespace Go.Proofs.YtcpalppfhohbnaaGreatDoor
open Go.RowKit

/-- The kinds and texts of tokens. -/
def ktOf (l : List (ByteArray × ByteArray × Nat)) : List (List UInt8 × List UInt8) := l.map fun x => (x.1.toList, x.2.1.toList)

theorem kt_take_succ {l : List (ByteArray × ByteArray × Nat)} {j : Nat} {y : ByteArray × ByteArray × Nat} (h : l[j]? = some y) : (ktOf l).take (j + 1) = (ktOf l).take j ++ [(y.1.toList, y.2.1.toList)] := by
  obtain ⟨hj, e⟩ := List.getElem?_eq_some_iff.1 h
  unfold ktOf
  rw [List.take_succ_eq_append_getElem (by simpa using hj)]
  simp [e]
theorem kt_ne {l m : List (ByteArray × ByteArray × Nat)} {j : Nat} {y z : ByteArray × ByteArray × Nat} (h : l[j]? = some y) (h' : m[j]? = some z) (hne : y.1.toList ≠ z.1.toList ∨ y.2.1.toList ≠ z.2.1.toList) : ktOf l ≠ ktOf m := by
  intro e
  have e1 : (ktOf l)[j]? = (ktOf m)[j]? := by rw [e]
  unfold ktOf at e1
  rw [List.getElem?_map, List.getElem?_map, h, h'] at e1
  simp at e1
  rcases hne with hne | hne
  · exact hne e1.1
  · exact hne e1.2

set_option maxHeartbeats 1000000 in
theorem sameTokens_any (l m : List (ByteArray × ByteArray × Nat)) (xa : Option Addr) (g g' cap cap' : Nat) (hn : l.length ≤ 100000) (_hm : m.length ≤ 100000) (w : World) (hxa : 0 < l.length → xa = some ⟨g, 0, none⟩) (hg0 : 0 < l.length → g < w.heap.size) (hg' : g' < w.heap.size) (hc : Holds w g l) (hc' : ∀ k v, (cellsOf m)[k]? = some v → w.cell? ⟨g', k, none⟩ = some v) :
    Calls Tryz.prog 20 #[.slice xa l.length cap, .slice (some ⟨g', 0, none⟩) m.length cap'] w fun ev w' => ev = .returned (.bool (decide (ktOf l = ktOf m))) ∧ Below w.heap.size w w' := by
  have HC : Hid (Holds w g l) := hc
  have HC' : Hid (∀ k v, (cellsOf m)[k]? = some v → w.cell? ⟨g', k, none⟩ = some v) := hc'
  clear hc hc'
  by_cases hl : l.length = m.length
  rotate_left
  · have HR : Hid (decide (ktOf l = ktOf m) = false) := by
      show _ = _
      rw [decide_eq_false_iff_not]
      intro e
      exact hl (by simpa [ktOf] using congrArg List.length e)
    have hI : ¬ (l.length : Int) = (m.length : Int) := by omega
    go_enter Tryz.func20, Tryz.ntmps20
    go_wp2
    go_ret
    exact ⟨by rw [HR.out]; rfl, Below.refl _ _⟩
  have hI : (l.length : Int) = (m.length : Int) := by omega
  go_enter Tryz.func20, Tryz.ntmps20
  go_wp2_with fail
  go_loopg [14] (l.length + 1) (fun gk v14 wr => ∃ j : Nat, gk = l.length + 1 - j ∧ j ≤ l.length ∧ v14 = .int .i64 (j : Int) ∧ (ktOf l).take j = (ktOf m).take j ∧ Below w.heap.size w wr)
  case atStart => exact ⟨0, rfl, Nat.zero_le _, rfl, rfl, Below.refl _ _⟩
  case round =>
    obtain ⟨j, hgk, hj, hv, htk, hb⟩ := hrel
    subst hv
    have HG : Hid (gk = l.length + 1 - j) := hgk
    have HT : Hid ((ktOf l).take j = (ktOf m).take j) := htk
    clear hgk htk
    have hj0 : (0 : Int) ≤ (j : Int) := by omega
    by_cases hlt : j < l.length
    · have hI1 : (j : Int) < (l.length : Int) := by omega
      have hg := hg0 (by omega)
      obtain rfl := hxa (by omega)
      clear hg0 hxa
      have hI2 : (j : Int) < (m.length : Int) := by omega
      obtain ⟨y, hy⟩ : ∃ y, l[j]? = some y := ⟨l[j], by simp [hlt]⟩
      obtain ⟨zz, hz⟩ : ∃ zz, m[j]? = some zz := ⟨m[j]'(by omega), by simp [show j < m.length by omega]⟩
      obtain ⟨e1, e2, z, e3⟩ := HC.out j y hy
      obtain ⟨d1, d2, d3⟩ := cells_get m j zz hz
      have HY : Hid (l[j]? = some y) := hy
      have HZ : Hid (m[j]? = some zz) := hz
      clear hy hz
      obtain ⟨k, t, o⟩ := y
      obtain ⟨k', t', o'⟩ := zz
      simp only at e1 e2 e3 d1 d2 d3
      have c1 := (hb.cell (p := ⟨g, j * 3, none⟩) hg).trans e1
      have c2 := (hb.cell (p := ⟨g, j * 3 + 1, none⟩) hg).trans e2
      have c3 := (hb.cell (p := ⟨g, j * 3 + 2, none⟩) hg).trans e3
      have b1 := (hb.cell (p := ⟨g', j * 3, none⟩) hg').trans (HC'.out _ _ d1)
      have b2 := (hb.cell (p := ⟨g', j * 3 + 1, none⟩) hg').trans (HC'.out _ _ d2)
      clear e1 e2 e3 d1 d2 d3
      have hsz := hb.size
      have f1 : (wr.alloc (.cells #[.string k, .string t, .int .i64 z] 43)).cell? ⟨g', j * 3, none⟩ = some (.string k') := by rw [World.cell?_alloc_past _ _ _ (Nat.lt_of_lt_of_le hg' hsz)]; exact b1
      have f2 : (wr.alloc (.cells #[.string k, .string t, .int .i64 z] 43)).cell? ⟨g', j * 3 + 1, none⟩ = some (.string t') := by rw [World.cell?_alloc_past _ _ _ (Nat.lt_of_lt_of_le hg' hsz)]; exact b2
      have hba := hb.alloc hb.size (.cells #[.string k, .string t, .int .i64 z] 43)
      have q1 : (wr.alloc (.cells #[.string k, .string t, .int .i64 z] 43)).cell? ⟨wr.heap.size, 0, none⟩ = some (.string k) := by rw [World.cell?_alloc_at _ _ _ _ rfl]; rfl
      have q2 : (wr.alloc (.cells #[.string k, .string t, .int .i64 z] 43)).cell? ⟨wr.heap.size, 1, none⟩ = some (.string t) := by rw [World.cell?_alloc_at _ _ _ _ rfl]; rfl
      cases k1 : (k.toList == k'.toList)
      · have n1 : (k.toList != k'.toList) = true := by simp [bne, k1]
        have HR : Hid (decide (ktOf l = ktOf m) = false) := by
          show _ = _
          rw [decide_eq_false_iff_not]
          exact kt_ne HY.out HZ.out (.inl (by simpa using k1))
        go_wp2
        go_quiet (fail)
        go_wp2
        go_ret
        exact ⟨by rw [HR.out]; rfl, below_drewN hba _⟩
      · have n1 : (k.toList != k'.toList) = false := by simp [bne, k1]
        cases k2 : (t.toList == t'.toList)
        · have n2 : (t.toList != t'.toList) = true := by simp [bne, k2]
          have HR : Hid (decide (ktOf l = ktOf m) = false) := by
            show _ = _
            rw [decide_eq_false_iff_not]
            exact kt_ne HY.out HZ.out (.inr (by simpa using k2))
          go_wp2
          go_quiet (fail)
          go_wp2
          go_ret
          exact ⟨by rw [HR.out]; rfl, below_drewN hba _⟩
        · have n2 : (t.toList != t'.toList) = false := by simp [bne, k2]
          have HK : Hid ((k.toList, t.toList) = (k'.toList, t'.toList)) := by
            show _ = _
            rw [beq_iff_eq] at k1 k2
            rw [k1, k2]
          go_wp2
          go_quiet (fail)
          go_wp2
          go_roundg (l.length + 1 - (j + 1))
          case measure => have := HG.out; omega
          case rel => exact ⟨j + 1, rfl, by omega, by go_num, by rw [kt_take_succ HY.out, kt_take_succ HZ.out, HT.out, HK.out], below_drewN hba _⟩
    · obtain rfl : j = l.length := by omega
      have hI1 : ¬ ((l.length : Nat) : Int) < (l.length : Int) := by omega
      have HR : Hid (decide (ktOf l = ktOf m) = true) := by
        show _ = _
        rw [decide_eq_true_iff]
        have h := HT.out
        rw [List.take_of_length_le (by simp [ktOf]), List.take_of_length_le (by simp [ktOf]; omega)] at h
        exact h
      go_wp2
      go_ret
      exact ⟨by rw [HR.out]; rfl, hb⟩

/-- What Text reads of the program's own variables. -/
structure TEnv (B : Nat) (a0 a1 a2 : Addr) (w : World) : Prop where
  lenv : LEnv B a0 a1 w
  g2 : w.cell? ⟨1, 0, none⟩ = some (.iface 163 (.pointer (some a2)))
  b2 : 1 < B
theorem TEnv.below {B : Nat} {a0 a1 a2 : Addr} {w w' : World} (h : TEnv B a0 a1 a2 w) (hb : Below B w w') : TEnv B a0 a1 a2 w' :=
  ⟨h.lenv.below hb, (hb.cell (p := ⟨1, 0, none⟩) h.b2).trans h.g2, h.b2⟩
theorem TEnv.up {B C : Nat} {a0 a1 a2 : Addr} {w : World} (h : TEnv B a0 a1 a2 w) (hC : B ≤ C) : TEnv C a0 a1 a2 w := ⟨h.lenv.up hC, h.g2, Nat.lt_of_lt_of_le h.b2 hC⟩

/-- s is the text of tokens. -/
def TextOf (l : List (ByteArray × ByteArray × Nat)) (s : ByteArray) : Prop := writtenL l 0 false [] = some s.data.toList ∧ ∃ m, lexP s = .ok (m.length, cellsOf m) ∧ ktOf l = ktOf m

def TxPost (l : List (ByteArray × ByteArray × Nat)) (a2 : Addr) (ev : Ending) : Prop :=
  (ev = .returned (.tuple #[.string ⟨#[]⟩, .iface 163 (.pointer (some a2))]) ∧ ∀ s, ¬ TextOf l s) ∨ ∃ s, TextOf l s ∧ ev = .returned (.tuple #[.string s, .nilIface])

theorem written_len : ∀ (l : List (ByteArray × ByteArray × Nat)) (d : Nat) (b : Bool) (acc a : List UInt8), acc.length ≤ 6000 → writtenL l d b acc = some a → a.length ≤ 6000
  | [], d, b, acc, a, h, e => by simp [writtenL] at e; subst e; exact h
  | x :: l, d, b, acc, a, h, e => by
    unfold writtenL at e
    split at e
    · cases e
    · split at e
      · cases e
      · rename_i h6
        exact written_len l _ _ _ a (by omega) e

theorem cells_inj : ∀ l m : List (ByteArray × ByteArray × Nat), cellsOf l = cellsOf m → l = m
  | [], [], _ => rfl
  | [], y :: m, h => by simp [cellsOf, tokCells] at h
  | x :: l, [], h => by simp [cellsOf, tokCells] at h
  | (k, t, o) :: l, (k', t', o') :: m, h => by
    have h2 : tokCells k t o ++ cellsOf l = tokCells k' t' o' ++ cellsOf m := h
    simp [tokCells] at h2
    obtain ⟨rfl, rfl, h3, h4⟩ := h2
    have : o = o' := by omega
    subst this
    rw [cells_inj l m h4]

set_option maxHeartbeats 1000000 in
theorem text_any (l : List (ByteArray × ByteArray × Nat)) (xa : Option Addr) (g cap : Nat) (hn : l.length ≤ 100000) (hs : ∀ x ∈ l, x.2.1.size ≤ 6000) (a0 a1 a2 : Addr) (w : World) (E : TEnv w.heap.size a0 a1 a2 w) (hxa : 0 < l.length → xa = some ⟨g, 0, none⟩) (hg : 0 < l.length → g < w.heap.size) (hc : Holds w g l) :
    Calls Tryz.prog 8 #[.slice xa l.length cap] w fun ev w' => TxPost l a2 ev ∧ Below w.heap.size w w' := by
  go_enter Tryz.func8, Tryz.ntmps8
  go_wp2_with fail
  refine (written_any l xa g cap hn hs w hxa hg hc).mono ?_
  rintro ev w1 ⟨hW, hb1⟩
  have E1 := (E.below hb1).up hb1.size
  unfold WPost at hW
  cases hw : writtenL l 0 false [] with
  | none =>
    rw [hw] at hW
    subst hW
    have hg2 := E1.g2
    have HN : Hid (∀ s, ¬ TextOf l s) := fun s h => by have := h.1; rw [hw] at this; cases this
    clear hw
    go_wp2
    go_quiet (fail)
    go_wp2
    refine bodyPost_ret (results_tmp2 rfl _ _ _) rfl ?_
    exact ⟨.inl ⟨rfl, HN.out⟩, below_drewN hb1 _⟩
  | some a =>
    rw [hw] at hW
    subst hW
    have hal := written_len l 0 false [] a (by simp) hw
    have hsz : (⟨a.toArray⟩ : ByteArray).size ≤ 6000 := by simpa [ByteArray.size] using hal
    have HW : Hid (writtenL l 0 false [] = some a) := hw
    clear hw
    go_wp2_with fail
    refine (lex_told ⟨a.toArray⟩ a0 a1 w1 E1.lenv hsz).mono ?_
    rintro ev w2 ⟨v5, v6, rfl, T2, hb2⟩
    have hb2w := hb1.trans (hb2.mono hb1.size)
    have E2 := (E.below hb2w).up hb2w.size
    have hg2 := E2.g2
    unfold Told at T2
    cases hl : lexP ⟨a.toArray⟩ with
    | error e =>
      rw [hl] at T2
      obtain ⟨rfl, b, rfl⟩ := T2
      have HN : Hid (∀ s, ¬ TextOf l s) := fun s h => by
        obtain ⟨h1, m, h2, _⟩ := h
        rw [HW.out] at h1
        simp only [Option.some.injEq] at h1
        have : s = ⟨a.toArray⟩ := by
          apply ByteArray.ext
          apply Array.ext'
          rw [← h1]
        rw [this, hl] at h2
        cases h2
      clear hl
      go_wp2
      go_quiet (fail)
      go_wp2
      refine bodyPost_ret (results_tmp2 rfl _ _ _) rfl ?_
      exact ⟨.inl ⟨rfl, HN.out⟩, below_drewN hb2w _⟩
    | ok x =>
      obtain ⟨n, tk⟩ := x
      rw [hl] at T2
      obtain ⟨m, rfl, rfl, _, _, _⟩ := lexP_fine hl
      obtain ⟨g', cap', rfl, rfl, hgB, hgl, hc'⟩ := T2
      have hmb := lexP_bd hl
      have HL : Hid (lexP ⟨a.toArray⟩ = .ok (m.length, cellsOf m)) := hl
      have hc2 : Holds w2 g l := fun j x hx => by
        have hlt : j < l.length := (List.getElem?_eq_some_iff.1 hx).1
        exact hc.below hb2w (hg (by omega)) j x hx
      clear hl
      go_wp2_with fail
      refine (sameTokens_any l m xa g g' cap cap' hn (by omega) w2 hxa (fun h => Nat.lt_of_lt_of_le (hg h) hb2w.size) hgl hc2 hc').mono ?_
      rintro ev w3 ⟨rfl, hb3⟩
      have hb3w := hb2w.trans (hb3.mono hb2w.size)
      have E3 := (E.below hb3w).up hb3w.size
      have hg3 := E3.g2
      by_cases hk : ktOf l = ktOf m
      · have hd : decide (ktOf l = ktOf m) = true := decide_eq_true hk
        rw [hd]
        have HT : Hid (TextOf l ⟨a.toArray⟩) := ⟨HW.out, m, HL.out, hk⟩
        clear hd hk
        go_wp2_with fail
        refine bodyPost_ret (results_tmp2 rfl _ _ _) rfl ?_
        exact ⟨.inr ⟨_, HT.out, rfl⟩, hb3w⟩
      · have hd : decide (ktOf l = ktOf m) = false := decide_eq_false hk
        rw [hd]
        have HN : Hid (∀ s, ¬ TextOf l s) := fun s h => by
          obtain ⟨h1, m', h2, h3⟩ := h
          rw [HW.out] at h1
          simp only [Option.some.injEq] at h1
          have e : s = ⟨a.toArray⟩ := by
            apply ByteArray.ext
            apply Array.ext'
            rw [← h1]
          rw [e, HL.out] at h2
          simp only [Except.ok.injEq, Prod.mk.injEq] at h2
          exact hk (by rw [h3, cells_inj _ _ h2.2])
        clear hd hk
        go_wp2
        go_quiet (fail)
        go_wp2
        refine bodyPost_ret (results_tmp2 rfl _ _ _) rfl ?_
        exact ⟨.inl ⟨rfl, HN.out⟩, below_drewN hb3w _⟩
end Go.Proofs.YtcpalppfhohbnaaGreatDoor
