/- The law LexDeep: its walk. -/
import Derived.Test.YtngiehnokhcifaaDoorDeepP
namespace Go.Proofs.YtngiehnokhcifaaDoor
open Go.RowKit

def ksOf (zs : List Int) (i : Nat) : List Nat := (zs.take i).map kOf
def insL (zs : List Int) (i : Nat) : List Value := (List.range i).map fun j => .string (blanksB (ksOf zs j).sum)

theorem kOf_bd (z : Int) : 1 ≤ kOf z ∧ kOf z ≤ 5 := by
  have := pk_lt z
  unfold kOf
  omega
theorem ksOf_bd (zs : List Int) (i : Nat) : ∀ k ∈ ksOf zs i, 1 ≤ k ∧ k ≤ 5 := fun k hk => by
  unfold ksOf at hk
  obtain ⟨z, _, rfl⟩ := List.mem_map.1 hk
  exact kOf_bd z
theorem ksOf_len (zs : List Int) (i : Nat) (h : i ≤ zs.length) : (ksOf zs i).length = i := by simp [ksOf]; omega
theorem ksOf_succ (zs : List Int) (i : Nat) (h : i < zs.length) : ksOf zs (i + 1) = ksOf zs i ++ [kOf (zs.getD i 0)] := by
  unfold ksOf
  rw [List.take_succ_eq_append_getElem h, List.map_append]
  have e : zs.getD i 0 = zs[i] := by simp [List.getD, h]
  simp only [List.map_cons, List.map_nil, e]
theorem ksOf_take (zs : List Int) (i j : Nat) (h : j ≤ i) : (ksOf zs i).take j = ksOf zs j := by
  unfold ksOf
  rw [← List.map_take, List.take_take, Nat.min_eq_left h]
theorem insL_succ (zs : List Int) (i : Nat) : insL zs (i + 1) = insL zs i ++ [.string (blanksB (ksOf zs i).sum)] := by
  unfold insL
  rw [List.range_succ]
  simp
theorem infoStr : (Tryd.prog.info? 9).map (fun i => (i.zero, i.size, i.bytes)) = some (some (.string ⟨#[]⟩), 1, 16) := by kernel_rfl

theorem deep_data (ks : List Nat) (m : Nat) : (progB ks ++ blanksB m ++ ⟨#[99, 10]⟩).data.toList = [97, 10] ++ deepLines 0 ks ++ (List.replicate m 32 ++ [99, 10]) := by
  simp [progB, blanksB]

theorem fold_take (l : List (ByteArray × ByteArray × Nat)) (j : Nat) (x : ByteArray × ByteArray × Nat) (h : l[j]? = some x) (a : Nat × Nat × Nat) : (l.take (j + 1)).foldl stepC a = stepC ((l.take j).foldl stepC a) x := by
  obtain ⟨hj, e⟩ := List.getElem?_eq_some_iff.1 h
  rw [List.take_succ_eq_append_getElem hj, List.foldl_append, e]
  rfl
theorem fold_bd : ∀ (l : List (ByteArray × ByteArray × Nat)) (a : Nat × Nat × Nat) (B : Nat), a.1 ≤ B ∧ a.2.1 ≤ B ∧ a.2.2 ≤ B → (l.foldl stepC a).1 ≤ B + l.length ∧ (l.foldl stepC a).2.1 ≤ B + l.length ∧ (l.foldl stepC a).2.2 ≤ B + l.length
  | [], a, B, h => by simpa using h
  | x :: l, a, B, h => by
    have hs : (stepC a x).1 ≤ B + 1 ∧ (stepC a x).2.1 ≤ B + 1 ∧ (stepC a x).2.2 ≤ B + 1 := by
      unfold stepC
      split
      · simp only; omega
      · split
        · simp only; omega
        · split
          · split
            · simp only; omega
            · omega
          · omega
    have := fold_bd l (stepC a x) (B + 1) hs
    simp only [List.foldl_cons, List.length_cons]
    omega
set_option maxHeartbeats 4000000 in
theorem lexDeep_any (x : Option Addr) (xl xc xb xo : Nat) (zs : List Int) (hxa : 0 < xl → x = some ⟨xb, xo, none⟩) (hzl : xl ≤ zs.length) (back : Int) (a0 a1 : Addr) (w : World) (hzc : ∀ j, j < xl → w.cell? ⟨xb, xo + j, none⟩ = some (.int .i64 (zs.getD j 0))) (E : LEnv w.heap.size a0 a1 w) :
    Calls Tryd.prog 7 #[.slice x xl xc, .int .i64 back] w fun ev w' => ev = .returned (.bool true) ∧ Below w.heap.size w w' := by
  by_cases hs : 30 < xl
  · have hI : (30 : Int) < (xl : Int) := by omega
    go_enter Tryd.func7, Tryd.ntmps7
    go_wp2_with fail
    refine (one_any a0 a1 w E).mono ?_
    rintro ev w1 ⟨rfl, hb1⟩
    go_wp2_with fail
    go_ret
    exact ⟨rfl, hb1⟩
  have hI : ¬ (30 : Int) < (xl : Int) := by omega
  by_cases h0 : back < 0
  · go_enter Tryd.func7, Tryd.ntmps7
    go_wp2_with fail
    refine (one_any a0 a1 w E).mono ?_
    rintro ev w1 ⟨rfl, hb1⟩
    go_wp2_with fail
    go_ret
    exact ⟨rfl, hb1⟩
  by_cases h1 : (xl : Int) < back
  · go_enter Tryd.func7, Tryd.ntmps7
    go_wp2_with fail
    refine (one_any a0 a1 w E).mono ?_
    rintro ev w1 ⟨rfl, hb1⟩
    go_wp2_with fail
    go_ret
    exact ⟨rfl, hb1⟩
  obtain ⟨b, rfl⟩ : ∃ b : Nat, back = (b : Int) := ⟨back.toNat, by omega⟩
  have hb : b ≤ xl := by omega
  have hN : ¬ xl < b := by omega
  have HZ : Hid (∀ j, j < xl → w.cell? ⟨xb, xo + j, none⟩ = some (.int .i64 (zs.getD j 0))) := hzc
  have HX : Hid (0 < xl → x = some ⟨xb, xo, none⟩) := hxa
  clear hzc hxa
  go_enter Tryd.func7, Tryd.ntmps7
  go_wp2_with fail
  refine (one_any a0 a1 w E).mono ?_
  rintro ev w1 ⟨rfl, hb1⟩
  have hown0 : Hid ((w1.alloc (.cells #[.string ⟨#[]⟩] 9)).ownsRow w1.heap.size 9 1 (.slice (some ⟨w1.heap.size, 0, none⟩) 1 1) 1 (insL zs 1)) :=
    ⟨rfl, .inr ⟨w1.heap.size, 1, #[.string ⟨#[]⟩], rfl, Nat.le_refl _, heap_alloc_new _ _, Nat.le_refl _, by unfold maxLen; omega, rfl, rfl⟩⟩
  have hbw0 : Hid (Below w1.heap.size w1 (w1.alloc (.cells #[.string ⟨#[]⟩] 9))) := (Below.refl _ _).alloc (Nat.le_refl _) _
  go_wp2_with fail
  go_loopg [6, 7, 8, 9] (xl + 1) (fun gk v6 v7 v8 v9 wr => ∃ i : Nat, gk = xl + 1 - i ∧ i ≤ xl ∧ v6 = .string (progB (ksOf zs i)) ∧ v7 = .string (blanksB (ksOf zs i).sum) ∧ v9 = .int .i64 (i : Int) ∧ wr.ownsRow w1.heap.size 9 1 v8 (i + 1) (insL zs (i + 1)) ∧ Below w1.heap.size w1 wr)
  case atStart => exact ⟨0, rfl, Nat.zero_le _, rfl, rfl, rfl, hown0.out, hbw0.out⟩
  case round =>
    obtain ⟨i, hgk, hi1, hv6, hv7, hv9, hown, hbr⟩ := hrel
    subst hv6 hv7 hv9
    have HG : Hid (gk = xl + 1 - i) := hgk
    clear hgk hown0 hbw0
    have hi0 : (0 : Int) ≤ (i : Int) := by omega
    have hsum := sum_le (ksOf zs i) (fun k hk => (ksOf_bd zs i k hk).2)
    have hkl := ksOf_len zs i (by omega)
    have hpsz := progB_size (ksOf zs i) (fun k hk => (ksOf_bd zs i k hk).2) (by omega)
    by_cases hlt : i < xl
    · have hI2 : (i : Int) < (xl : Int) := by omega
      obtain rfl := HX.out (by omega)
      have hzi : wr.cell? ⟨xb, xo + i, none⟩ = some (.int .i64 (zs.getD i 0)) := by
        have h2 := HZ.out i hlt
        have h3 := (hb1.cell (p := ⟨xb, xo + i, none⟩) (lt_of_cell h2)).trans h2
        exact (hbr.cell (p := ⟨xb, xo + i, none⟩) (lt_of_cell h3)).trans h3
      obtain ⟨z, hz⟩ : ∃ z, zs.getD i 0 = z := ⟨_, rfl⟩
      have HS : Hid (ksOf zs (i + 1) = ksOf zs i ++ [kOf z]) := by
        show _ = _
        rw [ksOf_succ zs i (by omega), hz]
      rw [hz] at hzi
      have HZZ : Hid (zs.getD i 0 = z) := hz
      clear hz
      have hpk := pk_lt z
      go_wp2_with fail
      refine (pick_any z _).mono ?_
      rintro ev w3 ⟨rfl, hw3⟩
      have hw4 := hw3.symm
      clear hw3
      subst hw4
      go_wp2_with fail
      go_loopg [7, 11] (pk z + 2) (fun gk v7 v11 wx => ∃ j : Nat, gk = pk z + 2 - j ∧ j ≤ 1 + pk z ∧ v7 = .string (blanksB ((ksOf zs i).sum + j)) ∧ v11 = .int .i64 (j : Int) ∧ wx = wr)
      case atStart => exact ⟨0, rfl, Nat.zero_le _, rfl, rfl, rfl⟩
      case round =>
        obtain ⟨j, hgj, hj, hv7, hv11, hq⟩ := hrel
        subst hv7 hv11 hq
        have HJ : Hid (gk = pk z + 2 - j) := hgj
        clear hgj
        by_cases hjl : j < 1 + pk z
        · have hjI : (j : Int) < 1 + (pk z : Int) := by omega
          have hbz := blanksB_size ((ksOf zs i).sum + j)
          have a1 := fun wx => run_string_add (P := Tryd.prog) wx (blanksB ((ksOf zs i).sum + j)) ⟨#[32]⟩ (by omega) (by decide)
          go_wp2
          go_roundg (pk z + 2 - (j + 1))
          case measure => have := HJ.out; omega
          case rel => exact ⟨j + 1, rfl, by omega, by rw [blanksB_more]; rfl, by go_num, rfl⟩
        · have hjI : ¬ (j : Int) < 1 + (pk z : Int) := by omega
          obtain rfl : j = 1 + pk z := by omega
          have hbz := blanksB_size ((ksOf zs i).sum + (1 + pk z))
          have HS2 : Hid ((ksOf zs (i + 1)).sum = (ksOf zs i).sum + (1 + pk z)) := by
            show _ = _
            rw [HS.out]
            simp [kOf]
          have a2 := fun wx => run_string_add (P := Tryd.prog) wx (progB (ksOf zs i)) (blanksB ((ksOf zs i).sum + (1 + pk z))) (by omega) (by omega)
          have a3 := fun wx => run_string_add (P := Tryd.prog) wx (progB (ksOf zs i) ++ blanksB ((ksOf zs i).sum + (1 + pk z))) ⟨#[98, 10]⟩ (by rw [size_app]; omega) (by decide)
          have hB : w1.heap.size ≤ wr.heap.size := hbr.size
          obtain ⟨i0, hi, hz0, hz1, hz2⟩ := info_parts infoStr
          go_wp2_with (first | (at_builtin; refine wpList_append_own _ rfl _ _ 27 rfl w1.heap.size 9 i0 (.string ⟨#[]⟩) 1 16 Tryd.underlying27 hi hz0 hz1 hz2 rfl (by decide) _ _ _ rfl (hown.alloc _) ⟨wr.heap.size, 0, none⟩ 1 1 [.string (blanksB ((ksOf zs i).sum + (1 + pk z)))] rfl rfl (cell_one_new _ _ _) (fun y hy => by simp at hy; subst hy; rfl) (by unfold maxLen; omega) (by omega) (by simp; omega) ?_))
          intro v8' w4 hown4 hgrow4 _
          have hb4 : Below w1.heap.size w1 w4 := hbr.trans (Below.grown ((Below.refl _ _).alloc hB _) hgrow4 (by simp; omega) (fun k hk => own_ge hown k hk))
          clear hown hgrow4 hbr
          go_wp2
          go_roundg (xl + 1 - (i + 1))
          case measure => have := HG.out; omega
          case rel =>
            refine ⟨i + 1, rfl, by omega, ?_, ?_, by go_num, ?_, hb4⟩
            · rw [HS.out, progB_snoc]; rfl
            · rw [HS2.out]
            · rw [insL_succ, HS2.out]; exact hown4
    · have hxi : i = xl := by omega
      subst hxi
      have hI2 : ¬ (i : Int) < (i : Int) := by omega
      obtain ⟨m, rfl⟩ : ∃ m, i = m + b := ⟨i - b, by omega⟩
      obtain ⟨ho1, ho2⟩ := hown
      rcases ho2 with ⟨_, h0⟩ | ⟨g, cap, cur, hv8, _, hgg, _, _, hsz0, htk⟩
      · omega
      subst hv8
      have hg : wr.cell? ⟨g, m, none⟩ = some (.string (blanksB (ksOf zs m).sum)) := by
        rw [cell_of_row wr g m cur 9 (0, 0) hgg, ← Array.getElem?_toList]
        have e : (cur.toList.take ((m + b + 1) * 1))[m]? = (insL zs (m + b + 1))[m]? := by rw [htk]
        rw [List.getElem?_take, if_pos (by omega)] at e
        rw [e]
        unfold insL
        rw [List.getElem?_map, List.getElem?_range (by omega)]
        rfl
      clear hgg htk ho1 hsz0
      have hks := ksOf_take zs (m + b) m (by omega)
      have hsm := sum_le (ksOf zs m) (fun k hk => (ksOf_bd zs m k hk).2)
      have hml := ksOf_len zs m (by omega)
      have hbz := blanksB_size (ksOf zs m).sum
      have hop := opens_get (ksOf zs (m + b)) 0 [] b (by omega)
      rw [hkl, show m + b - b = m by omega, hks] at hop
      simp only [Nat.zero_add] at hop
      obtain ⟨pi, pj, hlex⟩ := lexP_deep (progB (ksOf zs (m + b)) ++ blanksB (ksOf zs m).sum ++ ⟨#[99, 10]⟩) (ksOf zs (m + b)) b (ksOf zs m).sum (fun k hk => (ksOf_bd zs _ k hk).1) (by omega) hop (deep_data _ _)
      rw [deepAll_cells] at hlex
      have hfold := deepAll_fold (ksOf zs (m + b)) b pi pj (by omega)
      have hlen := deepAll_len (ksOf zs (m + b)) b pi pj
      rw [hkl] at hlex hfold hlen
      rw [← hlen] at hlex
      have hLb : (deepAll (ksOf zs (m + b)) b pi pj).length ≤ 200 := by omega
      have a2 := fun wx => run_string_add (P := Tryd.prog) wx (progB (ksOf zs (m + b))) (blanksB (ksOf zs m).sum) (by omega) (by omega)
      have a3 := fun wx => run_string_add (P := Tryd.prog) wx (progB (ksOf zs (m + b)) ++ blanksB (ksOf zs m).sum) ⟨#[99, 10]⟩ (by rw [size_app]; omega) (by decide)
      have hsz : (progB (ksOf zs (m + b)) ++ blanksB (ksOf zs m).sum ++ ⟨#[99, 10]⟩).size ≤ 6000 := by
        rw [size_app, size_app]
        have : (⟨#[99, 10]⟩ : ByteArray).size = 2 := rfl
        omega
      have hbw := hb1.trans (hbr.mono hb1.size)
      have Er := (E.below hbw).up hbw.size
      generalize hT : deepAll (ksOf zs (m + b)) b pi pj = L at hlex hfold hLb
      have HL : Hid (lexP (progB (ksOf zs (m + b)) ++ blanksB (ksOf zs m).sum ++ ⟨#[99, 10]⟩) = .ok (L.length, cellsOf L)) := hlex
      have HF : Hid (L.foldl stepC (0, 0, 0) = (m + b, m + b, b)) := hfold
      clear hlex hfold hT hop hks hlen
      have hd : ((m + b : Nat) : Int) - (b : Int) = (m : Int) := by omega
      go_wp2_with fail
      refine (lex_told _ a0 a1 wr Er hsz).mono ?_
      rintro ev w5 ⟨v12, v13, rfl, T5, hb5⟩
      unfold Told at T5
      rw [HL.out] at T5
      obtain ⟨gl, capl, rfl, rfl, _, _, hc⟩ := T5
      have HC : Hid (∀ k v, (cellsOf L)[k]? = some v → w5.cell? ⟨gl, k, none⟩ = some v) := hc
      have hbw5 := hbw.trans (hb5.mono hbw.size)
      clear hc hb5 HL Er a2 a3 hsz hg
      go_wp2_with fail
      go_loopg [14, 15, 16, 17] (L.length + 1) (fun gk v14 v15 v16 v17 wx => ∃ j : Nat, gk = L.length + 1 - j ∧ j ≤ L.length ∧ v14 = .int .i64 (((L.take j).foldl stepC (0, 0, 0)).1 : Nat) ∧ v15 = .int .i64 (((L.take j).foldl stepC (0, 0, 0)).2.1 : Nat) ∧ v16 = .int .i64 (((L.take j).foldl stepC (0, 0, 0)).2.2 : Nat) ∧ v17 = .int .i64 (j : Int) ∧ ∃ q, wx = w5.drewN q)
      case atStart => exact ⟨0, rfl, Nat.zero_le _, rfl, rfl, rfl, rfl, 0, rfl⟩
      case round =>
        obtain ⟨j, hgj, hj, hv14, hv15, hv16, hv17, q, hq⟩ := hrel
        subst hv14 hv15 hv16 hv17
        have HJ : Hid (gk = L.length + 1 - j) := hgj
        have HQ : Hid (wr = w5.drewN q) := hq
        clear hgj hq
        have hj0 : (0 : Int) ≤ (j : Int) := by omega
        by_cases hjl : j < L.length
        · have hjI : (j : Int) < (L.length : Int) := by omega
          obtain ⟨y, hy⟩ : ∃ y, L[j]? = some y := ⟨L[j], by simp [hjl]⟩
          obtain ⟨e1, e2, _⟩ := cells_get L j y hy
          have hft := fold_take L j y hy (0, 0, 0)
          have hfb := fold_bd (L.take j) (0, 0, 0) 0 ⟨Nat.le_refl _, Nat.le_refl _, Nat.le_refl _⟩
          have htl : (L.take j).length ≤ j := List.length_take_le _ _
          obtain ⟨k, t, o⟩ := y
          simp only at e1 e2
          have c1 := (congrArg (fun x => World.cell? x _) HQ.out).trans (HC.out _ _ e1)
          have c2 := (congrArg (fun x => World.cell? x _) HQ.out).trans (HC.out _ _ e2)
          generalize hF : (L.take j).foldl stepC (0, 0, 0) = F at hft hfb ⊢
          obtain ⟨f1, f2, f3⟩ := F
          have HT : Hid ((L.take (j + 1)).foldl stepC (0, 0, 0) = if (k.toList == [105, 110, 100, 101, 110, 116]) then (f1 + 1, f2, f3) else if (k.toList == [100, 101, 100, 101, 110, 116]) then (f1, f2 + 1, f3) else if (k.toList == [110, 97, 109, 101]) then (if (t.toList == [99]) then (f1, f2, f2) else (f1, f2, f3)) else (f1, f2, f3)) := hft
          simp only at hfb
          obtain ⟨b1, b2, b3⟩ := hfb
          clear hft hF hy e1 e2
          cases k1 : (k.toList == [105, 110, 100, 101, 110, 116])
          · cases k2 : (k.toList == [100, 101, 100, 101, 110, 116])
            · cases k3 : (k.toList == [110, 97, 109, 101])
              · rw [k1, k2, k3] at HT
                go_wp2
                go_roundg (L.length + 1 - (j + 1))
                case measure => have := HJ.out; omega
                case rel => exact ⟨j + 1, rfl, by omega, by rw [HT.out]; rfl, by rw [HT.out]; rfl, by rw [HT.out]; rfl, by go_num, q, HQ.out⟩
              · cases k4 : (t.toList == [99])
                · rw [k1, k2, k3, k4] at HT
                  go_wp2
                  go_roundg (L.length + 1 - (j + 1))
                  case measure => have := HJ.out; omega
                  case rel => exact ⟨j + 1, rfl, by omega, by rw [HT.out]; rfl, by rw [HT.out]; rfl, by rw [HT.out]; rfl, by go_num, q, HQ.out⟩
                · rw [k1, k2, k3, k4] at HT
                  go_wp2
                  go_roundg (L.length + 1 - (j + 1))
                  case measure => have := HJ.out; omega
                  case rel => exact ⟨j + 1, rfl, by omega, by rw [HT.out]; rfl, by rw [HT.out]; rfl, by rw [HT.out]; rfl, by go_num, q, HQ.out⟩
            · rw [k1, k2] at HT
              go_wp2
              go_roundg (L.length + 1 - (j + 1))
              case measure => have := HJ.out; omega
              case rel => exact ⟨j + 1, rfl, by omega, by rw [HT.out]; rfl, by rw [HT.out]; rfl, by rw [HT.out]; rfl, by go_num, q, HQ.out⟩
          · rw [k1] at HT
            go_wp2
            go_roundg (L.length + 1 - (j + 1))
            case measure => have := HJ.out; omega
            case rel => exact ⟨j + 1, rfl, by omega, by rw [HT.out]; rfl, by rw [HT.out]; rfl, by rw [HT.out]; rfl, by go_num, q, HQ.out⟩
        · obtain rfl : j = L.length := by omega
          rw [List.take_length, HF.out]
          go_wp2
          go_ret
          exact ⟨rfl, by rw [HQ.out]; exact below_drewN hbw5 q⟩
end Go.Proofs.YtngiehnokhcifaaDoor
