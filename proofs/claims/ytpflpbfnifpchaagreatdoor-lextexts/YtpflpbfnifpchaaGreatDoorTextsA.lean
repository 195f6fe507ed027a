/- The law LexTexts: tokens that come in; small, tokens, by contracts. -/
import Derived.Test.YtpflpbfnifpchaaGreatDoorTextC
import Derived.Test.YtpflpbfnifpchaaGreatDoorReads
namespace Go.Proofs.YtpflpbfnifpchaaGreatDoor
open Go.RowKit

/-- Tokens that were handed in. -/
def InRow (w : World) (b o : Nat) (l : List (ByteArray × ByteArray × Int)) : Prop := ∀ (j : Nat) (x : ByteArray × ByteArray × Int), l[j]? = some x → w.cell? ⟨b, o + j * 3, none⟩ = some (.string x.1) ∧ w.cell? ⟨b, o + j * 3 + 1, none⟩ = some (.string x.2.1) ∧ w.cell? ⟨b, o + j * 3 + 2, none⟩ = some (.int .i64 x.2.2)
theorem InRow.below {w w' : World} {b o B : Nat} {l : List (ByteArray × ByteArray × Int)} (h : InRow w b o l) (hb : Below B w w') (hg : b < B) : InRow w' b o l := fun j x hx => by
  obtain ⟨e1, e2, e3⟩ := h j x hx
  exact ⟨(hb.cell (p := ⟨b, o + j * 3, none⟩) hg).trans e1, (hb.cell (p := ⟨b, o + j * 3 + 1, none⟩) hg).trans e2, (hb.cell (p := ⟨b, o + j * 3 + 2, none⟩) hg).trans e3⟩
def plainT (l : List (ByteArray × ByteArray × Int)) : List (ByteArray × ByteArray × Nat) := l.map fun x => (x.1, x.2.1, 0)
def sumW : List (ByteArray × ByteArray × Int) → Nat
  | [] => 0
  | x :: l => 1 + x.2.1.size + sumW l
theorem sumW_append (l m : List (ByteArray × ByteArray × Int)) : sumW (l ++ m) = sumW l + sumW m := by
  induction l with
  | nil => simp [sumW]
  | cons x l ih => simp [sumW, ih]; omega
theorem sumW_take {l : List (ByteArray × ByteArray × Int)} {j : Nat} {x : ByteArray × ByteArray × Int} (h : l[j]? = some x) : sumW (l.take (j + 1)) = sumW (l.take j) + 1 + x.2.1.size := by
  obtain ⟨hj, e⟩ := List.getElem?_eq_some_iff.1 h
  rw [List.take_succ_eq_append_getElem hj, sumW_append, e]
  simp [sumW]
  omega
theorem sumW_mem : ∀ (l : List (ByteArray × ByteArray × Int)) (x : ByteArray × ByteArray × Int), x ∈ l → x.2.1.size ≤ sumW l
  | [], x, h => by simp at h
  | y :: l, x, h => by
    simp at h
    simp only [sumW]
    rcases h with rfl | h
    · omega
    · have := sumW_mem l x h
      omega

set_option maxHeartbeats 1000000 in
theorem smallLaw_any (l : List (ByteArray × ByteArray × Int)) (xa : Option Addr) (b o cap : Nat) (hn : l.length ≤ 140737488355327) (hz : ∀ x ∈ l, x.2.1.size ≤ 140737488355327) (w : World) (hxa : 0 < l.length → xa = some ⟨b, o, none⟩) (hc : InRow w b o l) :
    Calls Tryz.prog 10 #[.slice xa l.length cap] w fun ev w' => ev = .returned (.bool (decide (l.length ≤ 600 ∧ sumW l ≤ 3000))) ∧ w' = w := by
  have HC := toHid hc
  have HZ := toHid hz
  clear hc hz
  by_cases h6 : l.length ≤ 600
  · have hI6 : (l.length : Int) ≤ 600 := by omega
    go_enter Tryz.func10, Tryz.ntmps10
    go_wp2_with fail
    go_loopg [3, 4] (l.length + 1) (fun gk v3 v4 wx => ∃ j : Nat, gk = l.length + 1 - j ∧ j ≤ l.length ∧ v4 = .int .i64 (j : Int) ∧ v3 = .int .i64 ((sumW (l.take j) : Nat) : Int) ∧ sumW (l.take j) ≤ j * 140737488355328 ∧ wx = w)
    case atStart => exact ⟨0, rfl, Nat.zero_le _, rfl, rfl, by simp [sumW], rfl⟩
    case round =>
      obtain ⟨j, hgj, hj, hv4, hv3, hsb, rfl⟩ := hrel
      subst hv4 hv3
      have HG := toHid hgj
      clear hgj
      have hj0 : (0 : Int) ≤ (j : Int) := by omega
      have hs9 : sumW (l.take j) ≤ 90000000000000000 := by omega
      by_cases hlt : j < l.length
      · have hI : (j : Int) < (l.length : Int) := by omega
        obtain rfl := hxa (by omega)
        clear hxa
        obtain ⟨y, hy⟩ : ∃ y, l[j]? = some y := ⟨l[j], by simp [hlt]⟩
        obtain ⟨_, c2, _⟩ := HC.out j y hy
        have hys := HZ.out y (List.mem_of_getElem? hy)
        have HS := toHid (sumW_take hy)
        obtain ⟨k, t, z⟩ := y
        simp only at c2 hys
        clear hy
        obtain ⟨S, hS⟩ : ∃ S, S = sumW (l.take j) := ⟨_, rfl⟩
        have HSS := toHid hS
        rw [← hS] at hs9 hsb
        rw [← hS]
        clear hS
        go_wp2
        go_roundg (l.length + 1 - (j + 1))
        case measure => have := HG.out; omega
        case rel => exact ⟨j + 1, rfl, by omega, by go_num, by rw [HS.out, ← HSS.out]; go_num, by rw [HS.out, ← HSS.out]; omega, rfl⟩
      · have hI : ¬ (j : Int) < (l.length : Int) := by omega
        have hjl : j = l.length := by omega
        have HT : Hid (sumW (l.take j) = sumW l) := by
          show _ = _
          rw [hjl, List.take_length]
        rw [HT.out] at hs9 hsb
        rw [HT.out]
        go_wp2
        go_ret
        exact ⟨ret_bool (by rw [Bool.eq_iff_iff]; simp; omega), rfl⟩
  · have hI6 : ¬ (l.length : Int) ≤ 600 := by omega
    go_enter Tryz.func10, Tryz.ntmps10
    go_wp2_with fail
    go_loopg [3, 4] (l.length + 1) (fun gk v3 v4 wx => ∃ (j : Nat) (z : Int), gk = l.length + 1 - j ∧ j ≤ l.length ∧ v4 = .int .i64 (j : Int) ∧ v3 = .int .i64 z ∧ wx = w)
    case atStart => exact ⟨0, 0, rfl, Nat.zero_le _, rfl, rfl, rfl⟩
    case round =>
      obtain ⟨j, z, hgj, hj, hv4, hv3, rfl⟩ := hrel
      subst hv4 hv3
      have HG := toHid hgj
      clear hgj
      have hj0 : (0 : Int) ≤ (j : Int) := by omega
      by_cases hlt : j < l.length
      · have hI : (j : Int) < (l.length : Int) := by omega
        obtain rfl := hxa (by omega)
        clear hxa
        obtain ⟨y, hy⟩ : ∃ y, l[j]? = some y := ⟨l[j], by simp [hlt]⟩
        obtain ⟨_, c2, _⟩ := HC.out j y hy
        clear hy
        go_wp2
        go_roundg (l.length + 1 - (j + 1))
        case measure => have := HG.out; omega
        case rel => exact ⟨j + 1, _, rfl, by omega, by go_num, rfl, rfl⟩
      · have hI : ¬ (j : Int) < (l.length : Int) := by omega
        go_wp2
        go_ret
        exact ⟨rfl, rfl⟩

theorem plain_get {l : List (ByteArray × ByteArray × Int)} {j : Nat} {x : ByteArray × ByteArray × Int} (h : l[j]? = some x) : (plainT l)[j]? = some (x.1, x.2.1, 0) := by
  simp [plainT, h]

/-- The cells of tokens that were handed in. -/
def cellsZ (l : List (ByteArray × ByteArray × Int)) : List Value := l.flatMap fun x => [.string x.1, .string x.2.1, .int .i64 x.2.2]
theorem cellsZ_len (l : List (ByteArray × ByteArray × Int)) : (cellsZ l).length = 3 * l.length := by
  induction l with
  | nil => rfl
  | cons x l ih => simp [cellsZ] at ih ⊢; omega
theorem cellsZ_get : ∀ (l : List (ByteArray × ByteArray × Int)) (j : Nat) (x : ByteArray × ByteArray × Int), l[j]? = some x → (cellsZ l)[j * 3]? = some (.string x.1) ∧ (cellsZ l)[j * 3 + 1]? = some (.string x.2.1) ∧ (cellsZ l)[j * 3 + 2]? = some (.int .i64 x.2.2)
  | [], j, x, h => by simp at h
  | y :: l, 0, x, h => by
    simp at h
    subst h
    exact ⟨rfl, rfl, rfl⟩
  | y :: l, j + 1, x, h => by
    obtain ⟨h1, h2, h3⟩ := cellsZ_get l j x (by simpa using h)
    have e : ∀ k, (cellsZ (y :: l))[k + 3]? = (cellsZ l)[k]? := fun k => rfl
    refine ⟨?_, ?_, ?_⟩
    · rw [show (j + 1) * 3 = j * 3 + 3 by omega, e]; exact h1
    · rw [show (j + 1) * 3 + 1 = j * 3 + 1 + 3 by omega, e]; exact h2
    · rw [show (j + 1) * 3 + 2 = j * 3 + 2 + 3 by omega, e]; exact h3
theorem cellsZ_take {l : List (ByteArray × ByteArray × Int)} {j : Nat} {x : ByteArray × ByteArray × Int} (h : l[j]? = some x) : cellsZ (l.take (j + 1)) = cellsZ (l.take j) ++ [.string x.1, .string x.2.1, .int .i64 x.2.2] := by
  obtain ⟨hj, e⟩ := List.getElem?_eq_some_iff.1 h
  rw [List.take_succ_eq_append_getElem hj, e]
  simp [cellsZ]

set_option maxHeartbeats 2000000 in
theorem tokens_any (l : List (ByteArray × ByteArray × Int)) (xa : Option Addr) (b o cap : Nat) (hn : l.length ≤ 600) (w : World) (hxa : 0 < l.length → xa = some ⟨b, o, none⟩) (hbl0 : 0 < l.length → b < w.heap.size) (hc : InRow w b o l) :
    Calls Tryz.prog 12 #[.slice xa l.length cap] w fun ev w' => ∃ vt, ev = .returned vt ∧ w'.ownsRow w.heap.size 44 3 vt l.length (cellsZ l) ∧ Below w.heap.size w w' := by
  have HC := toHid hc
  clear hc
  go_enter Tryz.func12, Tryz.ntmps12
  go_wp2_with fail
  go_loopg [3, 4] (l.length + 1) (fun gk v3 v4 wx => ∃ j : Nat, gk = l.length + 1 - j ∧ j ≤ l.length ∧ v4 = .int .i64 (j : Int) ∧ wx.ownsRow w.heap.size 44 3 v3 j (cellsZ (l.take j)) ∧ Below w.heap.size w wx)
  case atStart => exact ⟨0, rfl, Nat.zero_le _, rfl, World.ownsRow_nil _ _ _ _, Below.refl _ _⟩
  case round =>
    obtain ⟨j, hgj, hj, hv4, hown, hbw⟩ := hrel
    subst hv4
    have HG := toHid hgj
    clear hgj
    have hj0 : (0 : Int) ≤ (j : Int) := by omega
    by_cases hlt : j < l.length
    · have hI : (j : Int) < (l.length : Int) := by omega
      have hbl := hbl0 (by omega)
      obtain rfl := hxa (by omega)
      clear hxa hbl0
      obtain ⟨y, hy⟩ : ∃ y, l[j]? = some y := ⟨l[j], by simp [hlt]⟩
      have HIN := HC.out.below hbw hbl
      obtain ⟨c1, c2, c3⟩ := HIN j y hy
      have HCT := toHid (cellsZ_take hy)
      obtain ⟨k, t, z⟩ := y
      simp only at c1 c2 c3
      obtain ⟨i4, hj4, hx0, hx1, hx2⟩ := info_parts infoTok
      have hsz := hbw.size
      have hne : u3.ownBlock ≠ some b := fun e => by have := own_ge hown _ e; omega
      have hbr : b < wr.heap.size := by omega
      clear hy HIN
      go_wp2_with fail
      go_region_held3 (fun w' => w'.cell? ⟨b, o + j * 3, none⟩ = some (.string k) ∧ w'.cell? ⟨b, o + j * 3 + 1, none⟩ = some (.string t) ∧ w'.cell? ⟨b, o + j * 3 + 2, none⟩ = some (.int .i64 z))
        (first
          | go_keep
          | (go_split_ands
             refine ⟨?_, ?_, ?_⟩
             · (rw [hgrow.cell_far _ (by simp; omega) (Ne.symm hne)]; assumption)
             · (rw [hgrow.cell_far _ (by simp; omega) (Ne.symm hne)]; assumption)
             · (rw [hgrow.cell_far _ (by simp; omega) (Ne.symm hne)]; assumption)))
        ((refine step_append_lies _ (by rfl) _ _ _ (by rfl) w.heap.size 44 i4 _ 3 40 Tryz.underlying23 hj4 hx0 hx1 hx2 rfl (by decide) u3 j (cellsZ (l.take j)) (by rfl) ((hown.alloc _).drew)
            ⟨wr.heap.size, 0, none⟩ 1 1 [.string k, .string t, .int .i64 z] (by rfl) (by rfl) (World.news_of_block (cs := #[.string k, .string t, .int .i64 z]) (t := 44) (fr := (0, 0)) (heap_alloc_new wr _)) (by simp [Value.oneCell'])
            (by decide) (by unfold maxLen; omega) (by omega) (by simp; omega) (wr.heap.size + 1) (by simp) ?_; intro gg cap' w1 hown1 hgrow hat hlt))
      have hbn : Below w.heap.size w w1 := Below.grown ((hbw.alloc hbw.size _).drew) hgrow (by simp; omega) (fun k hk => own_ge hown k hk)
      have HO1 : Hid (w1.ownsRow w.heap.size 44 3 (.slice (some ⟨gg, 0, none⟩) (j + 1) cap') (j + 1) (cellsZ (l.take (j + 1)))) := by
        show World.ownsRow _ _ _ _ _ _ _
        rw [HCT.out]
        exact hown1
      clear hown1 hgrow hat hlt hown
      go_wp2
      go_roundg (l.length + 1 - (j + 1))
      case measure => have := HG.out; omega
      case rel => exact ⟨j + 1, rfl, by omega, by go_num, HO1.out, hbn⟩
    · have hI : ¬ (j : Int) < (l.length : Int) := by omega
      have hjl : j = l.length := by omega
      subst hjl
      rw [List.take_length] at hown
      go_wp2
      go_ret
      exact ⟨_, rfl, hown, hbw⟩
end Go.Proofs.YtpflpbfnifpchaaGreatDoor
