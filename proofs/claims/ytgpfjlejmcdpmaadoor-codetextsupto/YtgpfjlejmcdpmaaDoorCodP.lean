/- Package code: line, number, named by contracts. -/
import Derived.Test.YtgpfjlejmcdpmaaDoorCBld
import Derived.Test.YtgpfjlejmcdpmaaDoorCodI
import Derived.Lib.AppendIntMem
import Derived.Lib.SmallJoins
namespace Go.Proofs.YtgpfjlejmcdpmaaDoor
open Go.RowKit

theorem builderF_below {T e : TypeId} {B b : Nat} {bs : List Value} {w w' : World} (h : Lib.IsBuilderF T e B b bs w) (hb : Below w.heap.size w w') : Lib.IsBuilderF T e B b bs w' := by
  have one : ∀ p, Lib.BuilderAtF T e B b p bs w → Lib.BuilderAtF T e B b p bs w' := fun p ⟨h1, v, h2, h3, h4⟩ => by
    refine ⟨h1, v, (hb.block b (lt_of_heap h2)).trans h2, ?_, h4⟩
    refine ⟨h3.1, ?_⟩
    rcases h3.2 with hn | ⟨g, cap, cur, fz, hv, hB, hg, rest⟩
    · exact .inl hn
    · exact .inr ⟨g, cap, cur, fz, hv, hB, (hb.block g (lt_of_heap hg)).trans hg, rest⟩
  exact h.elim (fun x => .inl (one _ x)) (fun x => .inr (one _ x))
theorem builderF_lt {T e : TypeId} {B b : Nat} {bs : List Value} {w : World} (h : Lib.IsBuilderF T e B b bs w) : b < w.heap.size := h.elim (fun x => x.lt) (fun x => x.lt)
theorem fresh_builder (w : World) : Lib.IsBuilderF 53 5 w.heap.size w.heap.size [] (w.alloc (.cells #[.pointer none, .slice none 0 0] 53)) :=
  Lib.IsBuilderF.of (.inl ⟨Nat.le_refl _, .slice none 0 0, heap_alloc_new _ _, World.ownsRow_nil _ _ _ _, by simp [Value.ownBlock]⟩)
theorem Known.others {bm b : Nat} {w w' : World} (h : Known bm w) (hk : Lib.OthersKept 5 (some b) w w') (hb : bm ≠ b) : Known bm w' := by
  obtain ⟨es, clock, h1, F, hs, hD⟩ := h
  exact ⟨es, clock, hk bm _ h1 (by simpa using hb) (by simp), F, hs, hD⟩
def decB (n : Int) : ByteArray := ⟨(Lib.itoa n).toArray⟩
/-- The table of powers of ten. -/
def Tabbed (w : World) : Prop := Lib.TabIs Tryd.prog w "internal/strconv.uint64pow10" .u64 Lib.pow10Tab
theorem Tabbed.below {w w' : World} {B : Nat} (h : Tabbed w) (hb : Below B w w') (hB : w.heap.size ≤ B) : Tabbed w' := Go.Joins.tab_stays (g := 8) (by kernel_rfl) h hb hB
theorem nDigits_le : ∀ (k u : Nat), u < 10 ^ (k + 1) → Lib.nDigits u ≤ k + 1
  | 0, u, h => by rw [Lib.nDigits_small (by simpa using h)]; exact Nat.le_refl _
  | k + 1, u, h => by
    by_cases h' : u < 10
    · rw [Lib.nDigits_small h']
      omega
    · rw [Lib.nDigits_big h']
      have := nDigits_le k (u / 10) (by rw [Nat.pow_succ] at h; omega)
      omega
theorem itoa_len (n : Int) (h0 : -9223372036854775808 ≤ n) (h1 : n ≤ 9223372036854775807) : (decB n).size ≤ 100 := by
  show (Lib.itoa n).toArray.size ≤ 100
  rw [List.size_toArray]
  unfold Lib.itoa
  split
  · have := nDigits_le 19 n.natAbs (by omega)
    rw [List.length_cons, Lib.decDigits_length]
    omega
  · have := nDigits_le 19 n.toNat (by omega)
    rw [Lib.decDigits_length]
    omega
set_option maxHeartbeats 1000000 in
theorem number_any (n : Int) (h0 : -9223372036854775808 ≤ n) (h1 : n ≤ 9223372036854775807) (w : World) (ht : Tabbed w) :
    Calls Tryd.prog 16 #[.int .i64 n] w fun ev w' => ev = .returned (.string (decB n)) ∧ Below w.heap.size w w' := by
  have kx := itoa_any n h0 h1 w ht
  go_enter Tryd.func16, Tryd.ntmps16
  go_wp2_with fail
  refine kx.mono ?_
  rintro ev w' ⟨rfl, k, os, rfl⟩
  have hb := Lib.below_grow w.heap.size w (Nat.le_refl _) k os
  go_wp2_with fail
  go_ret
  exact ⟨rfl, hb⟩
def dashB (s : ByteArray) : ByteArray := if s.size = 0 then ⟨#[45]⟩ else s
set_option maxHeartbeats 1000000 in
theorem named_any (s : ByteArray) (w : World) :
    Calls Tryd.prog 17 #[.string s] w fun ev w' => ev = .returned (.string (dashB s)) ∧ w' = w := by
  by_cases h : s.size = 0
  · obtain rfl : s = ⟨#[]⟩ := by
      obtain ⟨d⟩ := s
      have : d.size = 0 := h
      simp_all
    go_enter Tryd.func17, Tryd.ntmps17
    go_wp2_with fail
    go_ret
    exact ⟨rfl, rfl⟩
  · have e : s.toList.isEmpty = false := by
      cases hl : s.toList with
      | nil =>
        exfalso
        apply h
        have := congrArg List.length hl
        rw [ByteArray.toList_eq] at this
        exact this
      | cons _ _ => rfl
    have e2 : dashB s = s := if_neg h
    rw [e2]
    go_enter Tryd.func17, Tryd.ntmps17
    go_wp2_with fail
    go_ret
    exact ⟨rfl, rfl⟩
/-- Words with a blank between them. -/
def spaced : List ByteArray → List UInt8
  | [] => []
  | x :: r => x.data.toList ++ r.flatMap fun y => 32 :: y.data.toList
theorem spaced_snoc (l : List ByteArray) (x : ByteArray) (h : l ≠ []) : spaced (l ++ [x]) = spaced l ++ [32] ++ x.data.toList := by
  cases l with
  | nil => exact absurd rfl h
  | cons y r => simp [spaced]
set_option maxHeartbeats 2000000 in
theorem line_any (B b q : Nat) (ws : List ByteArray) (acc : List UInt8) (hws : ws.length ≤ 10) (hsz : ∀ x ∈ ws, x.size ≤ 1000000000000) (hlen : acc.length ≤ 100000000000000) (w : World) (hB : Lib.IsBuilderF 53 5 B b (Lib.byteCells acc) w) (hBw : B ≤ w.heap.size) (hq : w.heap[q]? = some (.cells (ws.map Value.string).toArray 9)) (hqb : q ≠ b) :
    Calls Tryd.prog 15 #[.pointer (some ⟨b, 0, none⟩), .slice (some ⟨q, 0, none⟩) ws.length ws.length] w fun ev w' => ev = .returned (.tuple #[]) ∧ Lib.IsBuilderF 53 5 B b (Lib.byteCells (acc ++ spaced ws ++ [10])) w' ∧ Below B w w' ∧ Lib.OthersKept 5 (some b) w w' := by
  have HQ := toHid hq
  have HS := toHid hsz
  clear hq hsz
  go_enter Tryd.func15, Tryd.ntmps15
  go_wp2_with fail
  go_loopg [8] (ws.length + 1) (fun gk v8 wr => ∃ j : Nat, gk = ws.length + 1 - j ∧ j ≤ ws.length ∧ v8 = .int .i64 (j : Int) ∧ Lib.IsBuilderF 53 5 B b (Lib.byteCells (acc ++ spaced (ws.take j))) wr ∧ (acc ++ spaced (ws.take j)).length ≤ 100000000000000 + j * 1000000000001 ∧ Below B w wr ∧ Lib.OthersKept 5 (some b) w wr)
  case atStart => exact ⟨0, rfl, Nat.zero_le _, rfl, by simpa [spaced] using hB, by simpa [spaced] using hlen, Below.refl _ _, Lib.OthersKept.refl _ _ _⟩
  case round =>
    obtain ⟨j, hgk, hj, rfl, hBr, hlr, hbr, hor⟩ := hrel
    have HG := toHid hgk
    clear hgk hB hlen
    have hBs : B ≤ wr.heap.size := Nat.le_trans hBw hbr.size
    have hne : some q ≠ some b := by simpa using hqb
    have hq' := hor q _ HQ.out hne (by simp)
    have hcl := Lib.byteCells_length (acc ++ spaced (ws.take j))
    by_cases hlt : j < ws.length
    · have hJ : (j : Int) < (ws.length : Int) := by omega
      have hJ0 : (0 : Int) ≤ (j : Int) := by omega
      have hx := HS.out ws[j] (by simp)
      have c0 : wr.cell? ⟨q, j, none⟩ = some (.string ws[j]) := by
        rw [cell_of_row _ _ j _ _ _ hq']
        simp [hlt]
      have ht : ws.take (j + 1) = ws.take j ++ [ws[j]] := (List.take_append_getElem hlt).symm
      by_cases h0 : j = 0
      · subst h0
        have e1 : acc ++ spaced (ws.take (0 + 1)) = acc ++ spaced (ws.take 0) ++ ws[0].data.toList := by rw [ht]; simp [spaced]
        have HE := toHid e1
        have HT := toHid ht
        have HO := toHid hor
        clear e1 ht hor hq' hne
        go_wp2_with fail
        refine (wString B b _ ws[0] _ hBr (by omega) hBs).mono ?_
        rintro ev w2 ⟨rfl, hB2, hb2, ho2⟩
        go_wp2_with fail
        go_roundg (ws.length + 1 - (0 + 1))
        case measure => have := HG.out; omega
        case rel =>
          refine ⟨0 + 1, rfl, by omega, by go_num, ?_, ?_, hbr.trans hb2, HO.out.trans ho2⟩
          · rw [HE.out, Lib.byteCells_append]
            exact hB2
          · rw [HE.out, List.length_append]
            have : ws[0].data.toList.length = ws[0].size := Array.length_toList
            omega
      · have hne0 : ws.take j ≠ [] := by
          intro h
          have := congrArg List.length h
          rw [List.length_take, List.length_nil] at this
          omega
        have hJ1 : (0 : Int) < (j : Int) := by omega
        have e1 : acc ++ spaced (ws.take (j + 1)) = acc ++ spaced (ws.take j) ++ [32] ++ ws[j].data.toList := by rw [ht, spaced_snoc _ _ hne0]; simp
        have HE := toHid e1
        have HT := toHid ht
        have HO := toHid hor
        clear e1 ht hor hq' hne hne0
        go_wp2_with fail
        refine (wByte B b _ 32 _ hBr (by omega) hBs).mono ?_
        rintro ev w1 ⟨rfl, hB1, hb1, ho1⟩
        have hBs1 : B ≤ w1.heap.size := Nat.le_trans hBs hb1.size
        go_wp2_with fail
        refine (wString B b _ ws[j] _ hB1 (by simp; omega) hBs1).mono ?_
        rintro ev w2 ⟨rfl, hB2, hb2, ho2⟩
        go_wp2_with fail
        go_roundg (ws.length + 1 - (j + 1))
        case measure => have := HG.out; omega
        case rel =>
          refine ⟨j + 1, rfl, by omega, by go_num, ?_, ?_, (hbr.trans hb1).trans hb2, (HO.out.trans ho1).trans ho2⟩
          · rw [HE.out, Lib.byteCells_append, Lib.byteCells_append]
            exact hB2
          · rw [HE.out, List.length_append, List.length_append]
            have : ws[j].data.toList.length = ws[j].size := Array.length_toList
            have : ([32] : List UInt8).length = 1 := rfl
            omega
    · obtain rfl : j = ws.length := by omega
      have HO := toHid hor
      have hb' : (Lib.byteCells (acc ++ spaced (ws.take ws.length))).length + 1 ≤ 140737488355328 := by omega
      rw [List.take_length] at hBr hb'
      clear hor hq' hne hcl
      go_wp2_with fail
      refine (wByte B b _ 10 _ hBr hb' hBs).mono ?_
      rintro ev w1 ⟨rfl, hB1, hb1, ho1⟩
      go_wp2_with fail
      go_end0
      refine ⟨rfl, ?_, hbr.trans hb1, HO.out.trans ho1⟩
      rw [Lib.byteCells_append]
      exact hB1
end Go.Proofs.YtgpfjlejmcdpmaaDoor
