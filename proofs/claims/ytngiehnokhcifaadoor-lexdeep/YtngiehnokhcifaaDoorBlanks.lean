/- The law LexBlanks: its walk. -/
import Derived.Test.YtngiehnokhcifaaDoorPick
namespace Go.Proofs.YtngiehnokhcifaaDoor
open Go.RowKit

theorem alike_len {a b : List Value} (h : Alike a b) : ∃ m, a.length = 3 * m ∧ b.length = 3 * m := by
  induction h with
  | nil => exact ⟨0, rfl, rfl⟩
  | tok h k t i j ih =>
    obtain ⟨m, h1, h2⟩ := ih
    exact ⟨m + 1, by simp [tokCells, h1]; omega, by simp [tokCells, h2]; omega⟩
theorem alike_get {a b : List Value} (h : Alike a b) : ∀ i, 3 * i < a.length → ∃ k x, a[3 * i]? = some (.string k) ∧ a[3 * i + 1]? = some (.string x) ∧ b[3 * i]? = some (.string k) ∧ b[3 * i + 1]? = some (.string x) := by
  induction h with
  | nil => intro i hi; simp at hi
  | @tok a b h k t p q ih =>
    intro i hi
    obtain ⟨m, h1, h2⟩ := alike_len h
    by_cases hlt : i < m
    · obtain ⟨k', x', e1, e2, e3, e4⟩ := ih i (by omega)
      refine ⟨k', x', ?_, ?_, ?_, ?_⟩
      · rw [List.getElem?_append_left (by omega)]; exact e1
      · rw [List.getElem?_append_left (by omega)]; exact e2
      · rw [List.getElem?_append_left (by omega)]; exact e3
      · rw [List.getElem?_append_left (by omega)]; exact e4
    · simp [tokCells] at hi
      obtain rfl : i = m := by omega
      refine ⟨k, t, ?_, ?_, ?_, ?_⟩
      · rw [List.getElem?_append_right (by omega), show 3 * i - a.length = 0 by omega]; rfl
      · rw [List.getElem?_append_right (by omega), show 3 * i + 1 - a.length = 1 by omega]; rfl
      · rw [List.getElem?_append_right (by omega), show 3 * i - b.length = 0 by omega]; rfl
      · rw [List.getElem?_append_right (by omega), show 3 * i + 1 - b.length = 1 by omega]; rfl

/-- What Lex has told: tokens, as cells of a row; or a fault. -/
def Told (s : ByteArray) (B : Nat) (v5 v6 : Value) (w : World) : Prop :=
  match lexP s with
  | .ok (n, tk) => ∃ g cap, v5 = .slice (some ⟨g, 0, none⟩) n cap ∧ v6 = .nilIface ∧ B ≤ g ∧ g < w.heap.size ∧ (∀ k v, tk[k]? = some v → w.cell? ⟨g, k, none⟩ = some v)
  | .error _ => v5 = .slice none 0 0 ∧ ∃ b, v6 = .iface 30 (.pointer (some ⟨b, 0, none⟩))

theorem Told.below {s : ByteArray} {B : Nat} {v5 v6 : Value} {w w' : World} (h : Told s B v5 v6 w) (hb : Below w.heap.size w w') : Told s B v5 v6 w' := by
  unfold Told at h ⊢
  cases hl : lexP s with
  | error e => rw [hl] at h; exact h
  | ok x =>
    obtain ⟨n, tk⟩ := x
    rw [hl] at h
    obtain ⟨g, cap, h1, h2, h3, h4, h5⟩ := h
    exact ⟨g, cap, h1, h2, h3, Nat.lt_of_lt_of_le h4 hb.size, fun k v hk => (hb.cell (p := ⟨g, k, none⟩) h4).trans (h5 k v hk)⟩

theorem lexP_pos {s : ByteArray} {n : Nat} {tk : List Value} (h : lexP s = .ok (n, tk)) : 0 < n := by
  obtain ⟨l, _, rfl, _, hd, _⟩ := lexP_fine h
  cases l with
  | nil =>
    exfalso
    unfold lexP at h
    split at h
    · cases h
    · split at h
      · cases h
      · simp at h
  | cons _ _ => simp
theorem cells_len : ∀ l : List (ByteArray × ByteArray × Nat), (cellsOf l).length = 3 * l.length
  | [] => rfl
  | x :: l => by
    have ih := cells_len l
    have e : cellsOf (x :: l) = tokCells x.1 x.2.1 x.2.2 ++ cellsOf l := rfl
    rw [e, List.length_append, ih]
    simp [tokCells]
    omega
theorem lexP_len {s : ByteArray} {n : Nat} {tk : List Value} (h : lexP s = .ok (n, tk)) : tk.length = 3 * n := by
  obtain ⟨l, rfl, rfl, _, _⟩ := lexP_fine h
  clear h
  exact cells_len l

/-- Lex, of a program that is not too long, once and for all. -/
theorem lex_told (s : ByteArray) (a0 a1 : Addr) (w : World) (E : LEnv w.heap.size a0 a1 w) (hs : s.size ≤ 6000) :
    Calls Tryd.prog 13 #[.string s] w fun ev w' => ∃ v5 v6, ev = .returned (.tuple #[v5, v6]) ∧ Told s w.heap.size v5 v6 w' ∧ Below w.heap.size w w' := by
  refine (lex_any s a0 a1 w E).mono ?_
  rintro ev w' ⟨hb, hx⟩
  rw [if_neg (by omega)] at hx
  unfold Told
  cases hl : lexP s with
  | error e =>
    rw [hl] at hx
    obtain ⟨b, rfl, _, _⟩ := hx
    exact ⟨_, _, rfl, ⟨rfl, b, rfl⟩, hb⟩
  | ok x =>
    obtain ⟨n, tk⟩ := x
    rw [hl] at hx
    obtain ⟨vt, rfl, ho⟩ := hx
    have hn := lexP_pos hl
    rcases ho.2 with ⟨_, h0⟩ | ⟨g, cap, cur, rfl, hB, hg, _, _, hsz, htk⟩
    · omega
    · refine ⟨_, _, rfl, ⟨g, cap, rfl, rfl, hB, lt_of_heap hg, fun k v hk => ?_⟩, hb⟩
      rw [cell_of_row w' g k cur 41 (0, 0) hg, ← Array.getElem?_toList]
      have hlt : k < tk.length := by
        rcases Nat.lt_or_ge k tk.length with h1 | h1
        · exact h1
        · rw [List.getElem?_eq_none h1] at hk; cases hk
      have e : (cur.toList.take (n * 3))[k]? = tk[k]? := by rw [htk]
      rw [List.getElem?_take, if_pos (by have := ho.1; omega)] at e
      rw [e]
      exact hk

theorem run_inv (s : ByteArray) : ∀ {f : Nat} {σ τ : LexSt}, Inv s σ → runLines s f σ = .ok τ → Inv s τ
  | 0, σ, τ, I, h => by simp [runLines] at h; subst h; exact I
  | f + 1, σ, τ, I, h => by
    unfold runLines at h
    split at h
    · rename_i hlt
      cases hs : lineStep s σ with
      | error e => rw [hs] at h; cases h
      | ok σ' =>
        rw [hs] at h
        exact run_inv s (lineStep_inv I hlt hs).1 h
    · simp at h; subst h; exact I
def moreB (k : Nat) : ByteArray := ⟨(moreAt k).toArray⟩
theorem moreB_size (k : Nat) : (moreB k).size ≤ 12 := by
  iterate 5 (rcases k with _ | k; · decide)
  exact (by decide : (0 : Nat) ≤ 12)
theorem cut_at (s : ByteArray) (i : Nat) : (s.extract 0 i).data.toList = s.data.toList.take i ∧ (s.extract i s.size).data.toList = s.data.toList.drop i := by
  constructor
  · rw [ByteArray.data_extract, Array.toList_extract]; simp [List.extract]
  · rw [ByteArray.data_extract, Array.toList_extract]
    simp [List.extract]
    rw [List.take_of_length_le]
    simp
theorem end_at (s : ByteArray) (i : Nat) (h : ∀ hi : i < s.size, s[i].toNat = 10) : lineEnd (s.data.toList.drop i) := by
  by_cases hi : i < s.size
  · right
    have hl : i < s.data.toList.length := by simpa using hi
    refine ⟨s.data.toList.drop (i + 1), ?_⟩
    rw [List.drop_eq_getElem_cons hl]
    congr 1
    have e := h hi
    exact UInt8.toNat_inj.mp e
  · left
    exact List.drop_eq_nil_of_le (by simpa using Nat.le_of_not_lt hi)

theorem blanks_data (s : ByteArray) (i k : Nat) : (s.extract 0 i ++ moreB k ++ s.extract i s.size).data.toList = s.data.toList.take i ++ moreAt k ++ s.data.toList.drop i := by
  have h := cut_at s i
  simp only [ByteArray.data_append, Array.toList_append, h.1, h.2, moreB]
theorem lexP_bd {s : ByteArray} {n : Nat} {tk : List Value} (h : lexP s = .ok (n, tk)) : n ≤ 4 * s.size + 4 := by
  unfold lexP at h
  cases hr : runLines s s.size ⟨0, [0], 0, []⟩ with
  | error e => rw [hr] at h; cases h
  | ok σ =>
    rw [hr] at h
    simp only at h
    have hI := run_inv s (f := s.size) (inv0 s) hr
    cases hst : settleP σ.st 0 σ.at_ σ.n σ.tk with
    | none => rw [hst] at h; cases h
    | some x =>
      obtain ⟨st', n', tk'⟩ := x
      rw [hst] at h
      simp only [Except.ok.injEq, Prod.mk.injEq] at h
      have h1 := settleP_inv hst hI.last
      have h2 := hI.cnt
      have h3 := hI.hat
      omega

theorem more_cell (w : World) (t : TypeId) (k : Nat) (hk : k < 5) : (w.alloc (.cells #[.string ⟨#[32, 32]⟩, .string ⟨#[32, 35, 32, 97, 32, 99, 111, 109, 109, 101, 110, 116]⟩, .string ⟨#[10, 32, 32, 32]⟩, .string ⟨#[10, 35, 32, 34]⟩, .string ⟨#[10, 10]⟩] t)).cell? ⟨w.heap.size, k, none⟩ = some (.string (moreB k)) := by
  rw [World.cell?_alloc_at _ _ _ _ rfl]
  rcases k with _ | _ | _ | _ | _ | k
  · rfl
  · rfl
  · rfl
  · rfl
  · rfl
  · omega

set_option maxHeartbeats 4000000 in
theorem lexBlanks_any (s : ByteArray) (at_ how : Int) (a0 a1 : Addr) (w : World) (E : LEnv w.heap.size a0 a1 w) :
    Calls Tryd.prog 5 #[.string s, .int .i64 at_, .int .i64 how] w fun ev w' => ev = .returned (.bool true) ∧ Below w.heap.size w w' := by
  by_cases hs : 2000 < s.size
  · have hI : (2000 : Int) < (s.size : Int) := by omega
    go_enter Tryd.func5, Tryd.ntmps5
    go_wp2_with fail
    refine (one_any a0 a1 w E).mono ?_
    rintro ev w1 ⟨rfl, hb1⟩
    go_wp2_with fail
    go_ret
    exact ⟨rfl, hb1⟩
  have hI : ¬ (2000 : Int) < (s.size : Int) := by omega
  by_cases h0 : at_ < 0
  · go_enter Tryd.func5, Tryd.ntmps5
    go_wp2_with fail
    refine (one_any a0 a1 w E).mono ?_
    rintro ev w1 ⟨rfl, hb1⟩
    go_wp2_with fail
    go_ret
    exact ⟨rfl, hb1⟩
  by_cases h1 : (s.size : Int) < at_
  · go_enter Tryd.func5, Tryd.ntmps5
    go_wp2_with fail
    refine (one_any a0 a1 w E).mono ?_
    rintro ev w1 ⟨rfl, hb1⟩
    go_wp2_with fail
    go_ret
    exact ⟨rfl, hb1⟩
  obtain ⟨p0, rfl⟩ : ∃ p0 : Nat, at_ = (p0 : Int) := ⟨at_.toNat, by omega⟩
  have hp0 : p0 ≤ s.size := by omega
  go_enter Tryd.func5, Tryd.ntmps5
  go_wp2_with fail
  refine (one_any a0 a1 w E).mono ?_
  rintro ev w1 ⟨rfl, hb1⟩
  have E1 : LEnv w1.heap.size a0 a1 w1 := (E.below hb1).up hb1.size
  go_wp2_with fail
  refine (lex_told s a0 a1 w1 E1 (by omega)).mono ?_
  rintro ev w2 ⟨v5, v6, rfl, T2, hb2⟩
  have hb2w : Below w.heap.size w w2 := hb1.trans (hb2.mono hb1.size)
  have E2 : LEnv w2.heap.size a0 a1 w2 := (E.below hb2w).up hb2w.size
  go_wp2_with fail
  go_loopg [1] (s.size + 1 - p0) (fun gk v1 wr => ∃ i : Nat, gk = s.size + 1 - i ∧ i ≤ s.size ∧ v1 = .int .i64 (i : Int) ∧ wr = w2)
  case atStart => exact ⟨p0, rfl, hp0, rfl, rfl⟩
  case round =>
    obtain ⟨i, hgk, hi, hv, rfl⟩ := hrel
    subst hv
    have HG : Hid (gk = s.size + 1 - i) := hgk
    clear hgk
    have hi0 : (0 : Int) ≤ (i : Int) := by omega
    by_cases hlt : i < s.size
    · have hI2 : (i : Int) < (s.size : Int) := by omega
      cases e10 : ((s[i].toNat : Int) == 10)
      · have hne : ((s[i].toNat : Int) != 10) = true := by simp [bne, e10]
        go_wp2
        go_roundg (s.size + 1 - (i + 1))
        case measure => have := HG.out; omega
        case rel => exact ⟨i + 1, rfl, by omega, by go_num, rfl⟩
      · have hne : ((s[i].toNat : Int) != 10) = false := by simp [bne, e10]
        have hend := end_at s i (fun _ => by have := nat_of_beq e10; omega)
        have HE : Hid (lineEnd (s.data.toList.drop i)) := hend
        clear hend
        have hpk := pk_lt how
        have hpkI : (pk how : Int) < 5 := by omega
        have hpk0 : (0 : Int) ≤ (pk how : Int) := by omega
        have hmc := more_cell wr 9 (pk how) hpk
        go_wp2_with fail
        have hms := moreB_size (pk how)
        have hx1 : (s.extract 0 i).size = i := by simp; omega
        have hx2 : (s.extract i s.size).size = s.size - i := by simp
        have a1 := fun wx => run_string_add (P := Tryd.prog) wx (s.extract 0 i) (moreB (pk how)) (by omega) (by omega)
        have a2 := fun wx => run_string_add (P := Tryd.prog) wx (s.extract 0 i ++ moreB (pk how)) (s.extract i s.size) (by rw [size_app]; omega) (by omega)
        go_quiet ((go_at_call 15; exact Calls.quiet_of_same (pick_any how _)))
        have hb3 := below_drewN (hb2w.alloc hb2w.size (.cells #[.string ⟨#[32, 32]⟩, .string ⟨#[32, 35, 32, 97, 32, 99, 111, 109, 109, 101, 110, 116]⟩, .string ⟨#[10, 32, 32, 32]⟩, .string ⟨#[10, 35, 32, 34]⟩, .string ⟨#[10, 10]⟩] 9)) nq
        have hb23 := below_drewN ((Below.refl wr.heap.size wr).alloc (Nat.le_refl _) (.cells #[.string ⟨#[32, 32]⟩, .string ⟨#[32, 35, 32, 97, 32, 99, 111, 109, 109, 101, 110, 116]⟩, .string ⟨#[10, 32, 32, 32]⟩, .string ⟨#[10, 35, 32, 34]⟩, .string ⟨#[10, 10]⟩] 9)) nq
        have T3 := T2.below hb23
        have E3 := (E.below hb3).up hb3.size
        clear T2 hmc a1 a2 hb23
        have HT := blanks_data s i (pk how)
        generalize ht : s.extract 0 i ++ moreB (pk how) ++ s.extract i s.size = t at HT ⊢
        have hts : t.size ≤ 6000 := by rw [← ht, size_app, size_app]; omega
        clear ht
        have hsame := lexP_blanks s t _ _ (pk how) hpk HE.out (List.take_append_drop i s.data.toList).symm HT
        clear HT
        go_wp2_with fail
        refine (lex_told t a0 a1 _ E3 hts).mono ?_
        rintro ev w4 ⟨v9, v10, rfl, T4, hb4⟩
        have T5 := T3.below hb4
        have hb4w := hb3.trans (hb4.mono hb3.size)
        clear T3 E3 hb3 hb4 E2
        unfold Told at T4 T5
        cases hl : lexP s with
        | error e =>
          cases hl' : lexP t with
          | ok x => rw [hl, hl'] at hsame; exact hsame.elim
          | error e' =>
            rw [hl] at T5
            rw [hl'] at T4
            obtain ⟨rfl, b, rfl⟩ := T5
            obtain ⟨rfl, b', rfl⟩ := T4
            clear hsame hl hl'
            go_wp2
            go_ret
            exact ⟨rfl, hb4w⟩
        | ok x =>
          cases hl' : lexP t with
          | error e' => rw [hl, hl'] at hsame; exact hsame.elim
          | ok y =>
            obtain ⟨n, tk⟩ := x
            obtain ⟨n', tk'⟩ := y
            rw [hl, hl'] at hsame
            rw [hl] at T5
            rw [hl'] at T4
            obtain ⟨e1, hA⟩ := hsame
            simp only at e1 hA
            subst e1
            have hlen := lexP_len hl
            have hnb := lexP_bd hl
            clear hl hl'
            obtain ⟨g, cap, rfl, rfl, _, _, hc⟩ := T5
            obtain ⟨g', cap', rfl, rfl, _, _, hc'⟩ := T4
            have HA : Hid (Alike tk tk') := hA
            have HC : Hid (∀ k v, tk[k]? = some v → w4.cell? ⟨g, k, none⟩ = some v) := hc
            have HC' : Hid (∀ k v, tk'[k]? = some v → w4.cell? ⟨g', k, none⟩ = some v) := hc'
            clear hA hc hc'
            go_wp2_with fail
            go_loopg [14] (n + 1) (fun gk v11 wx => ∃ j : Nat, gk = n + 1 - j ∧ j ≤ n ∧ v11 = .int .i64 (j : Int) ∧ ∃ q, wx = w4.drewN q)
            case atStart => exact ⟨0, rfl, Nat.zero_le _, rfl, 0, rfl⟩
            case round =>
              obtain ⟨j, hgj, hj, hvj, q, hq⟩ := hrel
              subst hvj
              have HJ : Hid (gk = n + 1 - j) := hgj
              have HQ : Hid (wr = w4.drewN q) := hq
              clear hgj hq
              have hj0 : (0 : Int) ≤ (j : Int) := by omega
              by_cases hjl : j < n
              · have hjI : (j : Int) < (n : Int) := by omega
                obtain ⟨k, x, e1, e2, e3, e4⟩ := alike_get HA.out j (by omega)
                rw [Nat.mul_comm] at e1 e2 e3 e4
                have c1 := (congrArg (fun x => World.cell? x _) HQ.out).trans (HC.out _ _ e1)
                have c2 := (congrArg (fun x => World.cell? x _) HQ.out).trans (HC.out _ _ e2)
                have c3 := (congrArg (fun x => World.cell? x _) HQ.out).trans (HC'.out _ _ e3)
                have c4 := (congrArg (fun x => World.cell? x _) HQ.out).trans (HC'.out _ _ e4)
                go_wp2
                go_quiet (fail)
                go_wp2
                go_roundg (n + 1 - (j + 1))
                case measure => have := HJ.out; omega
                case rel => exact ⟨j + 1, rfl, by omega, by go_num, q + nq, by rw [HQ.out, World.drewN_drewN]⟩
              · have hjI : ¬ (j : Int) < (n : Int) := by omega
                go_wp2
                go_ret
                exact ⟨rfl, by rw [HQ.out]; exact below_drewN hb4w q⟩
    · have hI2 : ¬ (i : Int) < (s.size : Int) := by omega
      have hend := end_at s i (fun h => absurd h hlt)
      have HE : Hid (lineEnd (s.data.toList.drop i)) := hend
      clear hend
      have hpk := pk_lt how
      have hpkI : (pk how : Int) < 5 := by omega
      have hpk0 : (0 : Int) ≤ (pk how : Int) := by omega
      have hmc := more_cell wr 9 (pk how) hpk
      go_wp2_with fail
      have hms := moreB_size (pk how)
      have hx1 : (s.extract 0 i).size = i := by simp; omega
      have hx2 : (s.extract i s.size).size = s.size - i := by simp
      have a1 := fun wx => run_string_add (P := Tryd.prog) wx (s.extract 0 i) (moreB (pk how)) (by omega) (by omega)
      have a2 := fun wx => run_string_add (P := Tryd.prog) wx (s.extract 0 i ++ moreB (pk how)) (s.extract i s.size) (by rw [size_app]; omega) (by omega)
      go_quiet ((go_at_call 15; exact Calls.quiet_of_same (pick_any how _)))
      have hb3 := below_drewN (hb2w.alloc hb2w.size (.cells #[.string ⟨#[32, 32]⟩, .string ⟨#[32, 35, 32, 97, 32, 99, 111, 109, 109, 101, 110, 116]⟩, .string ⟨#[10, 32, 32, 32]⟩, .string ⟨#[10, 35, 32, 34]⟩, .string ⟨#[10, 10]⟩] 9)) nq
      have hb23 := below_drewN ((Below.refl wr.heap.size wr).alloc (Nat.le_refl _) (.cells #[.string ⟨#[32, 32]⟩, .string ⟨#[32, 35, 32, 97, 32, 99, 111, 109, 109, 101, 110, 116]⟩, .string ⟨#[10, 32, 32, 32]⟩, .string ⟨#[10, 35, 32, 34]⟩, .string ⟨#[10, 10]⟩] 9)) nq
      have T3 := T2.below hb23
      have E3 := (E.below hb3).up hb3.size
      clear T2 hmc a1 a2 hb23
      have HT := blanks_data s i (pk how)
      generalize ht : s.extract 0 i ++ moreB (pk how) ++ s.extract i s.size = t at HT ⊢
      have hts : t.size ≤ 6000 := by rw [← ht, size_app, size_app]; omega
      clear ht
      have hsame := lexP_blanks s t _ _ (pk how) hpk HE.out (List.take_append_drop i s.data.toList).symm HT
      clear HT
      go_wp2_with fail
      refine (lex_told t a0 a1 _ E3 hts).mono ?_
      rintro ev w4 ⟨v9, v10, rfl, T4, hb4⟩
      have T5 := T3.below hb4
      have hb4w := hb3.trans (hb4.mono hb3.size)
      clear T3 E3 hb3 hb4 E2
      unfold Told at T4 T5
      cases hl : lexP s with
      | error e =>
        cases hl' : lexP t with
        | ok x => rw [hl, hl'] at hsame; exact hsame.elim
        | error e' =>
          rw [hl] at T5
          rw [hl'] at T4
          obtain ⟨rfl, b, rfl⟩ := T5
          obtain ⟨rfl, b', rfl⟩ := T4
          clear hsame hl hl'
          go_wp2
          go_ret
          exact ⟨rfl, hb4w⟩
      | ok x =>
        cases hl' : lexP t with
        | error e' => rw [hl, hl'] at hsame; exact hsame.elim
        | ok y =>
          obtain ⟨n, tk⟩ := x
          obtain ⟨n', tk'⟩ := y
          rw [hl, hl'] at hsame
          rw [hl] at T5
          rw [hl'] at T4
          obtain ⟨e1, hA⟩ := hsame
          simp only at e1 hA
          subst e1
          have hlen := lexP_len hl
          have hnb := lexP_bd hl
          clear hl hl'
          obtain ⟨g, cap, rfl, rfl, _, _, hc⟩ := T5
          obtain ⟨g', cap', rfl, rfl, _, _, hc'⟩ := T4
          have HA : Hid (Alike tk tk') := hA
          have HC : Hid (∀ k v, tk[k]? = some v → w4.cell? ⟨g, k, none⟩ = some v) := hc
          have HC' : Hid (∀ k v, tk'[k]? = some v → w4.cell? ⟨g', k, none⟩ = some v) := hc'
          clear hA hc hc'
          go_wp2_with fail
          go_loopg [14] (n + 1) (fun gk v11 wx => ∃ j : Nat, gk = n + 1 - j ∧ j ≤ n ∧ v11 = .int .i64 (j : Int) ∧ ∃ q, wx = w4.drewN q)
          case atStart => exact ⟨0, rfl, Nat.zero_le _, rfl, 0, rfl⟩
          case round =>
            obtain ⟨j, hgj, hj, hvj, q, hq⟩ := hrel
            subst hvj
            have HJ : Hid (gk = n + 1 - j) := hgj
            have HQ : Hid (wr = w4.drewN q) := hq
            clear hgj hq
            have hj0 : (0 : Int) ≤ (j : Int) := by omega
            by_cases hjl : j < n
            · have hjI : (j : Int) < (n : Int) := by omega
              obtain ⟨k, x, e1, e2, e3, e4⟩ := alike_get HA.out j (by omega)
              rw [Nat.mul_comm] at e1 e2 e3 e4
              have c1 := (congrArg (fun x => World.cell? x _) HQ.out).trans (HC.out _ _ e1)
              have c2 := (congrArg (fun x => World.cell? x _) HQ.out).trans (HC.out _ _ e2)
              have c3 := (congrArg (fun x => World.cell? x _) HQ.out).trans (HC'.out _ _ e3)
              have c4 := (congrArg (fun x => World.cell? x _) HQ.out).trans (HC'.out _ _ e4)
              go_wp2
              go_quiet (fail)
              go_wp2
              go_roundg (n + 1 - (j + 1))
              case measure => have := HJ.out; omega
              case rel => exact ⟨j + 1, rfl, by omega, by go_num, q + nq, by rw [HQ.out, World.drewN_drewN]⟩
            · have hjI : ¬ (j : Int) < (n : Int) := by omega
              go_wp2
              go_ret
              exact ⟨rfl, by rw [HQ.out]; exact below_drewN hb4w q⟩
end Go.Proofs.YtngiehnokhcifaaDoor
