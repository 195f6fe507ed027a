/- The law LexBlanks: its walk. -/
import Derived.Test.YtngiehnokhcifaaDoorPick
import Derived.Test.YtngiehnokhcifaaDoorToks
namespace Go.Proofs.YtngiehnokhcifaaDoor
open Go.RowKit

theorem alike_get {a b : List Value} (h : Alike a b) : ∀ i, 3 * i < a.length → ∃ k x, a[i * 3]? = some (.string k) ∧ a[i * 3 + 1]? = some (.string x) ∧ b[i * 3]? = some (.string k) ∧ b[i * 3 + 1]? = some (.string x) := by
  obtain ⟨l, m, rfl, rfl, e⟩ := h
  intro i hi
  rw [cells_len] at hi
  have hl : i < l.length := by omega
  have hm : i < m.length := by have := congrArg List.length e; simp at this; omega
  have hx : l[i]? = some l[i] := by simp [hl]
  have hy : m[i]? = some m[i] := by simp [hm]
  obtain ⟨c1, c2, _⟩ := cells_get l i _ hx
  obtain ⟨d1, d2, _⟩ := cells_get m i _ hy
  have e1 : (l.map fun x => (x.1, x.2.1))[i]? = (m.map fun x => (x.1, x.2.1))[i]? := by rw [e]
  rw [List.getElem?_map, List.getElem?_map, hx, hy] at e1
  simp at e1
  rw [← e1.1] at d1
  rw [← e1.2] at d2
  exact ⟨_, _, c1, c2, d1, d2⟩

def moreB (k : Nat) : ByteArray := ⟨(moreAt k).toArray⟩
theorem moreB_size (k : Nat) : (moreB k).size ≤ 12 := by
  iterate 5 (rcases k with _ | k; · decide)
  exact (by decide : (0 : Nat) ≤ 12)
theorem cut_at (s : ByteArray) (i : Nat) : (s.extract 0 i).data.toList = s.data.toList.take i ∧ (s.extract i s.size).data.toList = s.data.toList.drop i := by
  constructor
  · rw [ByteArray.data_extract, Array.toList_extract]; simp [List.extract]
  · rw [ByteArray.data_extract, Array.toList_extract]
    simp [List.extract]
    rw [List.take_of_length_le]
    simp
theorem end_at (s : ByteArray) (i : Nat) (h : ∀ hi : i < s.size, s[i].toNat = 10) : lineEnd (s.data.toList.drop i) := by
  by_cases hi : i < s.size
  · right
    have hl : i < s.data.toList.length := by simpa using hi
    refine ⟨s.data.toList.drop (i + 1), ?_⟩
    rw [List.drop_eq_getElem_cons hl]
    congr 1
    have e := h hi
    exact UInt8.toNat_inj.mp e
  · left
    exact List.drop_eq_nil_of_le (by simpa using Nat.le_of_not_lt hi)

theorem blanks_data (s : ByteArray) (i k : Nat) : (s.extract 0 i ++ moreB k ++ s.extract i s.size).data.toList = s.data.toList.take i ++ moreAt k ++ s.data.toList.drop i := by
  have h := cut_at s i
  simp only [ByteArray.data_append, Array.toList_append, h.1, h.2, moreB]
theorem more_cell (w : World) (t : TypeId) (k : Nat) (hk : k < 5) : (w.alloc (.cells #[.string ⟨#[32, 32]⟩, .string ⟨#[32, 35, 32, 97, 32, 99, 111, 109, 109, 101, 110, 116]⟩, .string ⟨#[10, 32, 32, 32]⟩, .string ⟨#[10, 35, 32, 34]⟩, .string ⟨#[10, 10]⟩] t)).cell? ⟨w.heap.size, k, none⟩ = some (.string (moreB k)) := by
  rw [World.cell?_alloc_at _ _ _ _ rfl]
  rcases k with _ | _ | _ | _ | _ | k
  · rfl
  · rfl
  · rfl
  · rfl
  · rfl
  · omega

set_option maxHeartbeats 4000000 in
theorem lexBlanks_any (s : ByteArray) (at_ how : Int) (a0 a1 : Addr) (w : World) (E : LEnv w.heap.size a0 a1 w) :
    Calls Tryd.prog 5 #[.string s, .int .i64 at_, .int .i64 how] w fun ev w' => ev = .returned (.bool true) ∧ Below w.heap.size w w' := by
  by_cases hs : 2000 < s.size
  · have hI : (2000 : Int) < (s.size : Int) := by omega
    go_enter Tryd.func5, Tryd.ntmps5
    go_wp2_with fail
    refine (one_any a0 a1 w E).mono ?_
    rintro ev w1 ⟨rfl, hb1⟩
    go_wp2_with fail
    go_ret
    exact ⟨rfl, hb1⟩
  have hI : ¬ (2000 : Int) < (s.size : Int) := by omega
  by_cases h0 : at_ < 0
  · go_enter Tryd.func5, Tryd.ntmps5
    go_wp2_with fail
    refine (one_any a0 a1 w E).mono ?_
    rintro ev w1 ⟨rfl, hb1⟩
    go_wp2_with fail
    go_ret
    exact ⟨rfl, hb1⟩
  by_cases h1 : (s.size : Int) < at_
  · go_enter Tryd.func5, Tryd.ntmps5
    go_wp2_with fail
    refine (one_any a0 a1 w E).mono ?_
    rintro ev w1 ⟨rfl, hb1⟩
    go_wp2_with fail
    go_ret
    exact ⟨rfl, hb1⟩
  obtain ⟨p0, rfl⟩ : ∃ p0 : Nat, at_ = (p0 : Int) := ⟨at_.toNat, by omega⟩
  have hp0 : p0 ≤ s.size := by omega
  go_enter Tryd.func5, Tryd.ntmps5
  go_wp2_with fail
  refine (one_any a0 a1 w E).mono ?_
  rintro ev w1 ⟨rfl, hb1⟩
  have E1 : LEnv w1.heap.size a0 a1 w1 := (E.below hb1).up hb1.size
  go_wp2_with fail
  refine (lex_told s a0 a1 w1 E1 (by omega)).mono ?_
  rintro ev w2 ⟨v5, v6, rfl, T2, hb2⟩
  have hb2w : Below w.heap.size w w2 := hb1.trans (hb2.mono hb1.size)
  have E2 : LEnv w2.heap.size a0 a1 w2 := (E.below hb2w).up hb2w.size
  go_wp2_with fail
  go_loopg [1] (s.size + 1 - p0) (fun gk v1 wr => ∃ i : Nat, gk = s.size + 1 - i ∧ i ≤ s.size ∧ v1 = .int .i64 (i : Int) ∧ wr = w2)
  case atStart => exact ⟨p0, rfl, hp0, rfl, rfl⟩
  case round =>
    obtain ⟨i, hgk, hi, hv, rfl⟩ := hrel
    subst hv
    have HG : Hid (gk = s.size + 1 - i) := hgk
    clear hgk
    have hi0 : (0 : Int) ≤ (i : Int) := by omega
    by_cases hlt : i < s.size
    · have hI2 : (i : Int) < (s.size : Int) := by omega
      cases e10 : ((s[i].toNat : Int) == 10)
      · have hne : ((s[i].toNat : Int) != 10) = true := by simp [bne, e10]
        go_wp2
        go_roundg (s.size + 1 - (i + 1))
        case measure => have := HG.out; omega
        case rel => exact ⟨i + 1, rfl, by omega, by go_num, rfl⟩
      · have hne : ((s[i].toNat : Int) != 10) = false := by simp [bne, e10]
        have hend := end_at s i (fun _ => by have := nat_of_beq e10; omega)
        have HE : Hid (lineEnd (s.data.toList.drop i)) := hend
        clear hend
        have hpk := pk_lt how
        have hpkI : (pk how : Int) < 5 := by omega
        have hpk0 : (0 : Int) ≤ (pk how : Int) := by omega
        have hmc := more_cell wr 9 (pk how) hpk
        go_wp2_with fail
        have hms := moreB_size (pk how)
        have hx1 : (s.extract 0 i).size = i := by simp; omega
        have hx2 : (s.extract i s.size).size = s.size - i := by simp
        have a1 := fun wx => run_string_add (P := Tryd.prog) wx (s.extract 0 i) (moreB (pk how)) (by omega) (by omega)
        have a2 := fun wx => run_string_add (P := Tryd.prog) wx (s.extract 0 i ++ moreB (pk how)) (s.extract i s.size) (by rw [size_app]; omega) (by omega)
        go_quiet ((go_at_call 15; exact Calls.quiet_of_same (pick_any how _)))
        have hb3 := below_drewN (hb2w.alloc hb2w.size (.cells #[.string ⟨#[32, 32]⟩, .string ⟨#[32, 35, 32, 97, 32, 99, 111, 109, 109, 101, 110, 116]⟩, .string ⟨#[10, 32, 32, 32]⟩, .string ⟨#[10, 35, 32, 34]⟩, .string ⟨#[10, 10]⟩] 9)) nq
        have hb23 := below_drewN ((Below.refl wr.heap.size wr).alloc (Nat.le_refl _) (.cells #[.string ⟨#[32, 32]⟩, .string ⟨#[32, 35, 32, 97, 32, 99, 111, 109, 109, 101, 110, 116]⟩, .string ⟨#[10, 32, 32, 32]⟩, .string ⟨#[10, 35, 32, 34]⟩, .string ⟨#[10, 10]⟩] 9)) nq
        have T3 := T2.below hb23
        have E3 := (E.below hb3).up hb3.size
        clear T2 hmc a1 a2 hb23
        have HT := blanks_data s i (pk how)
        generalize ht : s.extract 0 i ++ moreB (pk how) ++ s.extract i s.size = t at HT ⊢
        have hts : t.size ≤ 6000 := by rw [← ht, size_app, size_app]; omega
        clear ht
        have hsame := lexP_blanks s t _ _ (pk how) hpk HE.out (List.take_append_drop i s.data.toList).symm HT
        clear HT
        go_wp2_with fail
        refine (lex_told t a0 a1 _ E3 hts).mono ?_
        rintro ev w4 ⟨v9, v10, rfl, T4, hb4⟩
        have T5 := T3.below hb4
        have hb4w := hb3.trans (hb4.mono hb3.size)
        clear T3 E3 hb3 hb4 E2
        unfold Told at T4 T5
        cases hl : lexP s with
        | error e =>
          cases hl' : lexP t with
          | ok x => rw [hl, hl'] at hsame; exact hsame.elim
          | error e' =>
            rw [hl] at T5
            rw [hl'] at T4
            obtain ⟨rfl, b, rfl⟩ := T5
            obtain ⟨rfl, b', rfl⟩ := T4
            clear hsame hl hl'
            go_wp2
            go_ret
            exact ⟨rfl, hb4w⟩
        | ok x =>
          cases hl' : lexP t with
          | error e' => rw [hl, hl'] at hsame; exact hsame.elim
          | ok y =>
            obtain ⟨n, tk⟩ := x
            obtain ⟨n', tk'⟩ := y
            rw [hl, hl'] at hsame
            rw [hl] at T5
            rw [hl'] at T4
            obtain ⟨e1, hA⟩ := hsame
            simp only at e1 hA
            subst e1
            have hlen := lexP_len hl
            have hnb := lexP_bd hl
            clear hl hl'
            obtain ⟨g, cap, rfl, rfl, _, _, hc⟩ := T5
            obtain ⟨g', cap', rfl, rfl, _, _, hc'⟩ := T4
            have HA : Hid (Alike tk tk') := hA
            have HC : Hid (∀ k v, tk[k]? = some v → w4.cell? ⟨g, k, none⟩ = some v) := hc
            have HC' : Hid (∀ k v, tk'[k]? = some v → w4.cell? ⟨g', k, none⟩ = some v) := hc'
            clear hA hc hc'
            go_wp2_with fail
            go_loopg [14] (n + 1) (fun gk v11 wx => ∃ j : Nat, gk = n + 1 - j ∧ j ≤ n ∧ v11 = .int .i64 (j : Int) ∧ ∃ q, wx = w4.drewN q)
            case atStart => exact ⟨0, rfl, Nat.zero_le _, rfl, 0, rfl⟩
            case round =>
              obtain ⟨j, hgj, hj, hvj, q, hq⟩ := hrel
              subst hvj
              have HJ : Hid (gk = n + 1 - j) := hgj
              have HQ : Hid (wr = w4.drewN q) := hq
              clear hgj hq
              have hj0 : (0 : Int) ≤ (j : Int) := by omega
              by_cases hjl : j < n
              · have hjI : (j : Int) < (n : Int) := by omega
                obtain ⟨k, x, e1, e2, e3, e4⟩ := alike_get HA.out j (by omega)
                have c1 := (congrArg (fun x => World.cell? x _) HQ.out).trans (HC.out _ _ e1)
                have c2 := (congrArg (fun x => World.cell? x _) HQ.out).trans (HC.out _ _ e2)
                have c3 := (congrArg (fun x => World.cell? x _) HQ.out).trans (HC'.out _ _ e3)
                have c4 := (congrArg (fun x => World.cell? x _) HQ.out).trans (HC'.out _ _ e4)
                go_wp2
                go_quiet (fail)
                go_wp2
                go_roundg (n + 1 - (j + 1))
                case measure => have := HJ.out; omega
                case rel => exact ⟨j + 1, rfl, by omega, by go_num, q + nq, by rw [HQ.out, World.drewN_drewN]⟩
              · have hjI : ¬ (j : Int) < (n : Int) := by omega
                go_wp2
                go_ret
                exact ⟨rfl, by rw [HQ.out]; exact below_drewN hb4w q⟩
    · have hI2 : ¬ (i : Int) < (s.size : Int) := by omega
      have hend := end_at s i (fun h => absurd h hlt)
      have HE : Hid (lineEnd (s.data.toList.drop i)) := hend
      clear hend
      have hpk := pk_lt how
      have hpkI : (pk how : Int) < 5 := by omega
      have hpk0 : (0 : Int) ≤ (pk how : Int) := by omega
      have hmc := more_cell wr 9 (pk how) hpk
      go_wp2_with fail
      have hms := moreB_size (pk how)
      have hx1 : (s.extract 0 i).size = i := by simp; omega
      have hx2 : (s.extract i s.size).size = s.size - i := by simp
      have a1 := fun wx => run_string_add (P := Tryd.prog) wx (s.extract 0 i) (moreB (pk how)) (by omega) (by omega)
      have a2 := fun wx => run_string_add (P := Tryd.prog) wx (s.extract 0 i ++ moreB (pk how)) (s.extract i s.size) (by rw [size_app]; omega) (by omega)
      go_quiet ((go_at_call 15; exact Calls.quiet_of_same (pick_any how _)))
      have hb3 := below_drewN (hb2w.alloc hb2w.size (.cells #[.string ⟨#[32, 32]⟩, .string ⟨#[32, 35, 32, 97, 32, 99, 111, 109, 109, 101, 110, 116]⟩, .string ⟨#[10, 32, 32, 32]⟩, .string ⟨#[10, 35, 32, 34]⟩, .string ⟨#[10, 10]⟩] 9)) nq
      have hb23 := below_drewN ((Below.refl wr.heap.size wr).alloc (Nat.le_refl _) (.cells #[.string ⟨#[32, 32]⟩, .string ⟨#[32, 35, 32, 97, 32, 99, 111, 109, 109, 101, 110, 116]⟩, .string ⟨#[10, 32, 32, 32]⟩, .string ⟨#[10, 35, 32, 34]⟩, .string ⟨#[10, 10]⟩] 9)) nq
      have T3 := T2.below hb23
      have E3 := (E.below hb3).up hb3.size
      clear T2 hmc a1 a2 hb23
      have HT := blanks_data s i (pk how)
      generalize ht : s.extract 0 i ++ moreB (pk how) ++ s.extract i s.size = t at HT ⊢
      have hts : t.size ≤ 6000 := by rw [← ht, size_app, size_app]; omega
      clear ht
      have hsame := lexP_blanks s t _ _ (pk how) hpk HE.out (List.take_append_drop i s.data.toList).symm HT
      clear HT
      go_wp2_with fail
      refine (lex_told t a0 a1 _ E3 hts).mono ?_
      rintro ev w4 ⟨v9, v10, rfl, T4, hb4⟩
      have T5 := T3.below hb4
      have hb4w := hb3.trans (hb4.mono hb3.size)
      clear T3 E3 hb3 hb4 E2
      unfold Told at T4 T5
      cases hl : lexP s with
      | error e =>
        cases hl' : lexP t with
        | ok x => rw [hl, hl'] at hsame; exact hsame.elim
        | error e' =>
          rw [hl] at T5
          rw [hl'] at T4
          obtain ⟨rfl, b, rfl⟩ := T5
          obtain ⟨rfl, b', rfl⟩ := T4
          clear hsame hl hl'
          go_wp2
          go_ret
          exact ⟨rfl, hb4w⟩
      | ok x =>
        cases hl' : lexP t with
        | error e' => rw [hl, hl'] at hsame; exact hsame.elim
        | ok y =>
          obtain ⟨n, tk⟩ := x
          obtain ⟨n', tk'⟩ := y
          rw [hl, hl'] at hsame
          rw [hl] at T5
          rw [hl'] at T4
          obtain ⟨e1, hA⟩ := hsame
          simp only at e1 hA
          subst e1
          have hlen := lexP_len hl
          have hnb := lexP_bd hl
          clear hl hl'
          obtain ⟨g, cap, rfl, rfl, _, _, hc⟩ := T5
          obtain ⟨g', cap', rfl, rfl, _, _, hc'⟩ := T4
          have HA : Hid (Alike tk tk') := hA
          have HC : Hid (∀ k v, tk[k]? = some v → w4.cell? ⟨g, k, none⟩ = some v) := hc
          have HC' : Hid (∀ k v, tk'[k]? = some v → w4.cell? ⟨g', k, none⟩ = some v) := hc'
          clear hA hc hc'
          go_wp2_with fail
          go_loopg [14] (n + 1) (fun gk v11 wx => ∃ j : Nat, gk = n + 1 - j ∧ j ≤ n ∧ v11 = .int .i64 (j : Int) ∧ ∃ q, wx = w4.drewN q)
          case atStart => exact ⟨0, rfl, Nat.zero_le _, rfl, 0, rfl⟩
          case round =>
            obtain ⟨j, hgj, hj, hvj, q, hq⟩ := hrel
            subst hvj
            have HJ : Hid (gk = n + 1 - j) := hgj
            have HQ : Hid (wr = w4.drewN q) := hq
            clear hgj hq
            have hj0 : (0 : Int) ≤ (j : Int) := by omega
            by_cases hjl : j < n
            · have hjI : (j : Int) < (n : Int) := by omega
              obtain ⟨k, x, e1, e2, e3, e4⟩ := alike_get HA.out j (by omega)
              have c1 := (congrArg (fun x => World.cell? x _) HQ.out).trans (HC.out _ _ e1)
              have c2 := (congrArg (fun x => World.cell? x _) HQ.out).trans (HC.out _ _ e2)
              have c3 := (congrArg (fun x => World.cell? x _) HQ.out).trans (HC'.out _ _ e3)
              have c4 := (congrArg (fun x => World.cell? x _) HQ.out).trans (HC'.out _ _ e4)
              go_wp2
              go_quiet (fail)
              go_wp2
              go_roundg (n + 1 - (j + 1))
              case measure => have := HJ.out; omega
              case rel => exact ⟨j + 1, rfl, by omega, by go_num, q + nq, by rw [HQ.out, World.drewN_drewN]⟩
            · have hjI : ¬ (j : Int) < (n : Int) := by omega
              go_wp2
              go_ret
              exact ⟨rfl, by rw [HQ.out]; exact below_drewN hb4w q⟩
end Go.Proofs.YtngiehnokhcifaaDoor
