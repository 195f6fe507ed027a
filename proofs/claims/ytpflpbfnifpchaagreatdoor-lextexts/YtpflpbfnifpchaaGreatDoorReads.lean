/- The law LexReads: faulted, sameTokens, and its walk. -/
import Derived.Test.YtpflpbfnifpchaaGreatDoorRefO
import Derived.Test.YtpflpbfnifpchaaGreatDoorToks
namespace Go.Proofs.YtpflpbfnifpchaaGreatDoor
open Go.RowKit

theorem faulted_of {errv : Value} {c a : Int} (w : World) (hc0 : c ≠ 0) (hc : ∀ W, Below w.heap.size w W → Calls Tryz.prog 22 #[errv] W fun ev w' => ev = .returned (.tuple #[.int .i64 c, .int .i64 a]) ∧ Below W.heap.size W w') :
    Calls Tryz.prog 8 #[errv, .agg #[.int .i64 c, .int .i64 a]] w fun ev w' => ev = .returned (.bool true) ∧ Below w.heap.size w w' := by
  have h0 : (c == 0) = false := by simp [hc0]
  go_enter Tryz.func8, Tryz.ntmps8
  go_wp2_with fail
  refine (hc _ ((Below.refl _ _).alloc (Nat.le_refl _) _)).mono ?_
  rintro ev w1 ⟨rfl, hb1⟩
  have hbw : Below w.heap.size w w1 := ((Below.refl _ _).alloc (Nat.le_refl _) _).trans (hb1.mono (by simp))
  have hR := (hb1.block w.heap.size (by simp)).trans (heap_alloc_new w (.cells #[.int .i64 c, .int .i64 a] 30))
  have c0 : w1.cell? ⟨w.heap.size, 0, none⟩ = some (.int .i64 c) := by rw [cell_of_row w1 _ 0 _ _ _ hR]; rfl
  have c1 : w1.cell? ⟨w.heap.size, 1, none⟩ = some (.int .i64 a) := by rw [cell_of_row w1 _ 1 _ _ _ hR]; rfl
  clear hR
  go_wp2
  go_ret
  exact ⟨rfl, hbw⟩

theorem owned_cells {w : World} {B t n : Nat} {vt : Value} {tk : List Value} (ho : w.ownsRow B t 3 vt n tk) (hl : tk.length = 3 * n) (hn : 0 < n) : ∃ g cap, vt = .slice (some ⟨g, 0, none⟩) n cap ∧ g < w.heap.size ∧ ∀ k v, tk[k]? = some v → w.cell? ⟨g, k, none⟩ = some v := by
  rcases ho.2 with ⟨_, h0⟩ | ⟨g, cap, cur, rfl, hB, hg, _, _, hsz, htk⟩
  · omega
  · refine ⟨g, cap, rfl, lt_of_heap hg, fun k v hk => ?_⟩
    rw [cell_of_row w g k cur t (0, 0) hg, ← Array.getElem?_toList]
    have hlt : k < tk.length := by
      rcases Nat.lt_or_ge k tk.length with h1 | h1
      · exact h1
      · rw [List.getElem?_eq_none h1] at hk; cases hk
    have e : (cur.toList.take (n * 3))[k]? = tk[k]? := by rw [htk]
    rw [List.getElem?_take, if_pos (by omega)] at e
    rw [e]
    exact hk

set_option maxHeartbeats 1000000 in
theorem sameToks_any (l : List (ByteArray × ByteArray × Nat)) (g g' cap cap' : Nat) (hn : l.length ≤ 100000) (w : World) (hc : ∀ k v, (cellsOf l)[k]? = some v → w.cell? ⟨g, k, none⟩ = some v) (hc' : ∀ k v, (cellsOf l)[k]? = some v → w.cell? ⟨g', k, none⟩ = some v) :
    Calls Tryz.prog 9 #[.slice (some ⟨g, 0, none⟩) l.length cap, .slice (some ⟨g', 0, none⟩) l.length cap', .bool true] w fun ev w' => ev = .returned (.bool true) ∧ Below w.heap.size w w' := by
  have HC : Hid (∀ k v, (cellsOf l)[k]? = some v → w.cell? ⟨g, k, none⟩ = some v) := hc
  have HC' : Hid (∀ k v, (cellsOf l)[k]? = some v → w.cell? ⟨g', k, none⟩ = some v) := hc'
  clear hc hc'
  go_enter Tryz.func9, Tryz.ntmps9
  go_wp2_with fail
  go_loopg [7] (l.length + 1) (fun gk v7 wx => ∃ j : Nat, gk = l.length + 1 - j ∧ j ≤ l.length ∧ v7 = .int .i64 (j : Int) ∧ ∃ q, wx = w.drewN q)
  case atStart => exact ⟨0, rfl, Nat.zero_le _, rfl, 0, rfl⟩
  case round =>
    obtain ⟨j, hgj, hj2, hvj, q2, hq2⟩ := hrel
    subst hvj
    have HJ : Hid (gk = l.length + 1 - j) := hgj
    have HQ2 : Hid (wr = w.drewN q2) := hq2
    clear hgj hq2
    have hjz : (0 : Int) ≤ (j : Int) := by omega
    by_cases hjl : j < l.length
    · have hjI1 : (j : Int) < (l.length : Int) := by omega
      obtain ⟨y, hy⟩ : ∃ y, l[j]? = some y := ⟨l[j], by simp [hjl]⟩
      obtain ⟨e1, e2, e3⟩ := cells_get l j y hy
      have c1 := (congrArg (fun x => World.cell? x _) HQ2.out).trans (HC.out _ _ e1)
      have c2 := (congrArg (fun x => World.cell? x _) HQ2.out).trans (HC.out _ _ e2)
      have c3 := (congrArg (fun x => World.cell? x _) HQ2.out).trans (HC.out _ _ e3)
      have b1 := (congrArg (fun x => World.cell? x _) HQ2.out).trans (HC'.out _ _ e1)
      have b2 := (congrArg (fun x => World.cell? x _) HQ2.out).trans (HC'.out _ _ e2)
      have b3 := (congrArg (fun x => World.cell? x _) HQ2.out).trans (HC'.out _ _ e3)
      clear hy e1 e2 e3
      obtain ⟨k, x, o⟩ := y
      simp only at c1 c2 c3 b1 b2 b3
      have n1 : (k.toList != k.toList) = false := by simp
      have n2 : (x.toList != x.toList) = false := by simp
      go_wp2
      go_quiet (fail)
      go_wp2
      go_roundg (l.length + 1 - (j + 1))
      case measure => have := HJ.out; omega
      case rel => exact ⟨j + 1, rfl, by omega, by go_num, q2 + nq, by rw [HQ2.out, World.drewN_drewN]⟩
    · have hjI1 : ¬ (j : Int) < (l.length : Int) := by omega
      go_wp2
      go_ret
      exact ⟨rfl, by rw [HQ2.out]; exact below_drewN (Below.refl _ _) q2⟩

set_option maxHeartbeats 2000000 in
theorem lexReads_any (s : ByteArray) (a : Nat → Addr) (w : World) (E : LEnv w.heap.size (a 0) (a 1) w) (X : Errs a w) :
    Calls Tryz.prog 3 #[.string s] w fun ev w' => ev = .returned (.bool true) ∧ Below w.heap.size w w' := by
  by_cases hs : s.size ≤ 3000
  rotate_left
  · have hI : (3000 : Int) < (s.size : Int) := by omega
    by_cases hs6 : s.size ≤ 6000
    · have hI6 : (s.size : Int) ≤ 6000 := by omega
      go_enter Tryz.func3, Tryz.ntmps3
      go_wp2_with fail
      refine (one_any (a 0) (a 1) w E).mono ?_
      rintro ev w1 ⟨rfl, hb1⟩
      go_wp2_with fail
      go_ret
      exact ⟨rfl, hb1⟩
    · have hI6 : ¬ (s.size : Int) ≤ 6000 := by omega
      go_enter Tryz.func3, Tryz.ntmps3
      go_wp2_with fail
      refine (one_any (a 0) (a 1) w E).mono ?_
      rintro ev w1 ⟨rfl, hb1⟩
      have E1 := (E.below hb1).up hb1.size
      go_wp2_with fail
      refine (lex_any s (a 0) (a 1) w1 E1).mono ?_
      rintro ev w2 ⟨hb2, hx⟩
      rw [if_pos (by omega)] at hx
      subst hx
      have hb2w := hb1.trans (hb2.mono hb1.size)
      go_wp2_with fail
      refine (lexOf_long s (by omega) w2).mono ?_
      rintro ev w3 ⟨rfl, hb3⟩
      have hb3w := hb2w.trans (hb3.mono hb2w.size)
      have hba := hb3w.alloc hb3w.size (.cells #[.int .i64 2, .int .i64 (-1)] 30)
      go_wp2_with fail
      refine (faulted_of (c := 2) (a := -1) _ (by decide) (fun W hW => ?_)).mono ?_
      · have XW := X.below (hba.trans (hW.mono hba.size))
        refine (code_sent a 1 (by decide) W XW).mono ?_
        rintro ev w' ⟨h1, h2⟩
        exact ⟨h1, h2⟩
      rintro ev w4 ⟨rfl, hb4⟩
      go_wp2_with fail
      go_ret
      exact ⟨rfl, hba.trans (hb4.mono hba.size)⟩
  have hI : ¬ (3000 : Int) < (s.size : Int) := by omega
  go_enter Tryz.func3, Tryz.ntmps3
  go_wp2_with fail
  refine (one_any (a 0) (a 1) w E).mono ?_
  rintro ev w1 ⟨rfl, hb1⟩
  have E1 := (E.below hb1).up hb1.size
  go_wp2_with fail
  refine (lex_any s (a 0) (a 1) w1 E1).mono ?_
  rintro ev w2 ⟨hb2, hx⟩
  rw [if_neg (by omega)] at hx
  have hb2w := hb1.trans (hb2.mono hb1.size)
  cases hl : lexP s with
  | error e =>
    rw [hl] at hx
    obtain ⟨b, rfl, hc0, hc1⟩ := hx
    have hbl := lt_of_cell hc0
    go_wp2_with fail
    refine (lexOf_short s (by omega) w2).mono ?_
    rintro ev w3 ⟨hb3, hx3⟩
    rw [hl] at hx3
    subst hx3
    have hb3w := hb2w.trans (hb3.mono hb2w.size)
    have hba := hb3w.alloc hb3w.size (.cells #[.int .i64 1, .int .i64 (e : Int)] 30)
    have hb2a := hb3.alloc hb3.size (.cells #[.int .i64 1, .int .i64 (e : Int)] 30)
    have HC0 := toHid hc0
    have HC1 := toHid hc1
    clear hl hc0 hc1
    go_wp2_with fail
    refine (faulted_of (c := 1) (a := (e : Int)) _ (by decide) (fun W hW => ?_)).mono ?_
    · have hbW := hba.trans (hW.mono hba.size)
      have h2W := hb2a.trans (hW.mono hb2a.size)
      refine (code_fault a 0 (by decide) b 0 (e : Int) W (X.below hbW) ((h2W.cell (p := ⟨b, 0, none⟩) hbl).trans HC0.out) ((h2W.cell (p := ⟨b, 0 + 1, none⟩) hbl).trans HC1.out)).mono ?_
      rintro ev w' ⟨h1, h2⟩
      exact ⟨h1, h2⟩
    rintro ev w4 ⟨rfl, hb4⟩
    go_wp2_with fail
    go_ret
    exact ⟨rfl, hba.trans (hb4.mono hba.size)⟩
  | ok x =>
    obtain ⟨n, tk⟩ := x
    rw [hl] at hx
    obtain ⟨vt, rfl, ho⟩ := hx
    obtain ⟨l, rfl, rfl, _, _, _⟩ := lexP_fine hl
    have hlb := lexP_bd hl
    have hn0 := lexP_pos hl
    obtain ⟨g, cap, rfl, hgl, hcg⟩ := owned_cells ho (cells_len l) hn0
    go_wp2_with fail
    refine (lexOf_short s (by omega) w2).mono ?_
    rintro ev w3 ⟨hb3, hx3⟩
    rw [hl] at hx3
    obtain ⟨vu, rfl, ho3⟩ := hx3
    obtain ⟨g', cap', rfl, hgl', hcg'⟩ := owned_cells ho3 (cells_len l) hn0
    have hb3w := hb2w.trans (hb3.mono hb2w.size)
    have hba := hb3w.alloc hb3w.size (.cells #[.int .i64 0, .int .i64 (-1)] 30)
    have hb2a := hb3.alloc hb3.size (.cells #[.int .i64 0, .int .i64 (-1)] 30)
    have HC := toHid hcg
    have HC' := toHid hcg'
    clear hl hcg hcg' ho ho3
    go_wp2_with fail
    refine (sameToks_any l g g' cap cap' (by omega) _ (fun k v h => (hb2a.cell (p := ⟨g, k, none⟩) hgl).trans (HC.out k v h)) (fun k v h => (World.cell?_alloc_past _ _ _ hgl').trans (HC'.out k v h))).mono ?_
    rintro ev w4 ⟨rfl, hb4⟩
    go_wp2_with fail
    go_ret
    exact ⟨rfl, hba.trans (hb4.mono hba.size)⟩
end Go.Proofs.YtpflpbfnifpchaaGreatDoor
