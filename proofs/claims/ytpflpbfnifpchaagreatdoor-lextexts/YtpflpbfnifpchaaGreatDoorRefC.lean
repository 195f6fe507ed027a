/- The document's answer for package lex: words, tokenOf, by contracts. -/
import Derived.Test.YtpflpbfnifpchaaGreatDoorRefB
namespace Go.Proofs.YtpflpbfnifpchaaGreatDoor
open Go.RowKit

theorem words_any (w : World) : Calls Tryz.prog 36 #[] w fun ev w' => ev = .returned (.slice (some ⟨w.heap.size, 0, none⟩) 25 25) ∧ w' = w.alloc (.cells wordCells 9) := by
  go_enter Tryz.func36, Tryz.ntmps36
  go_wp2
  go_ret
  exact ⟨rfl, rfl⟩

theorem word_cell (k : Nat) (h : k < 25) : wordCells[k]? = some (.string (wordAt k)) := by
  iterate 25 (rcases k with _ | k; · rfl)
  omega

set_option maxHeartbeats 400000 in
theorem index_any (t : ByteArray) (b : Nat) (w : World) (hb : w.heap[b]? = some (.cells wordCells 9 (0, 0))) : Calls Tryz.prog 57 #[.slice (some ⟨b, 0, none⟩) 25 25, .string t] w fun ev w' => ∃ i : Int, ev = .returned (.int .i64 i) ∧ decide (0 ≤ i) = wordB t ∧ w' = w := by
  have HC : Hid (∀ k, k < 25 → w.cell? ⟨b, k, none⟩ = some (.string (wordAt k))) := fun k hk => by rw [cell_of_row w b k _ _ _ hb]; exact word_cell k hk
  clear hb
  go_enter Tryz.func57, Tryz.ntmps57
  go_wp2
  go_loopg [5] 25 (fun n v5 wr => ∃ k : Nat, n = 25 - k ∧ k ≤ 25 ∧ v5 = .int .i64 (k : Int) ∧ wordFrom t (25 - k) k = wordB t ∧ wr = w)
  case atStart => exact ⟨0, rfl, by decide, rfl, rfl, rfl⟩
  case round =>
    obtain ⟨k, hn, hk, hv, hwf, rfl⟩ := hrel
    subst hv
    have HW : Hid (wordFrom t (25 - k) k = wordB t) := hwf
    have HN : Hid (gk = 25 - k) := hn
    clear hwf hn
    have hk0 : (0 : Int) ≤ (k : Int) := by omega
    by_cases hlt : k < 25
    · have hc := HC.out k hlt
      have hI : (k : Int) < 25 := by omega
      cases he : ((wordAt k).toList == t.toList)
      · go_wp2
        go_roundg (25 - (k + 1))
        case measure => have := HN.out; omega
        case rel => exact ⟨k + 1, rfl, by omega, by go_num, (wordFrom_miss hlt he).symm.trans HW.out, rfl⟩
      · go_wp2
        go_ret
        exact ⟨_, rfl, by rw [← HW.out, wordFrom_hit hlt he]; simp, rfl⟩
    · have hke : k = 25 := by omega
      have HK : Hid (k = 25) := hke
      have hI : ¬ (k : Int) < 25 := by omega
      clear hke
      go_wp2
      go_ret
      exact ⟨-1, rfl, by rw [← HW.out, HK.out]; rfl, rfl⟩

theorem has_any (t : ByteArray) (b : Nat) (w : World) (hb : w.heap[b]? = some (.cells wordCells 9 (0, 0))) : Calls Tryz.prog 35 #[.slice (some ⟨b, 0, none⟩) 25 25, .string t] w fun ev w' => ev = .returned (.bool (wordB t)) ∧ w' = w := by
  go_enter Tryz.func35, Tryz.ntmps35
  go_wp2_with fail
  refine (index_any t b w hb).mono ?_
  rintro ev w1 ⟨i, rfl, hi, rfl⟩
  go_wp2_with fail
  go_ret
  exact ⟨by rw [← hi]; rfl, rfl⟩

/-- What tokenOf comes to. -/
def TPostR (q : ByteArray) (ev : Ending) : Prop :=
  match tokAt q 0 with
  | some (k, t, m) => ev = .returned (.tuple #[.agg #[.string k, .string t, .int .i64 0], .int .i64 (m : Int)])
  | none => ∃ a b, ev = .returned (.tuple #[.agg #[.string a, .string b, .int .i64 0], .int .i64 0])
theorem TPostR.yes {q : ByteArray} {k t : ByteArray} {m : Nat} (h : tokAt q 0 = some (k, t, m)) : TPostR q (.returned (.tuple #[.agg #[.string k, .string t, .int .i64 0], .int .i64 (m : Int)])) := by
  unfold TPostR
  rw [h]
theorem TPostR.no {q : ByteArray} {a b : ByteArray} (h : tokAt q 0 = none) : TPostR q (.returned (.tuple #[.agg #[.string a, .string b, .int .i64 0], .int .i64 0])) := by
  unfold TPostR
  rw [h]
  exact ⟨a, b, rfl⟩

theorem tok_block {w : World} {b : Nat} (h : w.heap[b]? = some (.cells #[.string ⟨#[]⟩, .string ⟨#[]⟩, .int .i64 0] 53)) :
    w.cell? ⟨b, 0, none⟩ = some (.string ⟨#[]⟩) ∧ w.cell? ⟨b, 1, none⟩ = some (.string ⟨#[]⟩) ∧ w.cell? ⟨b, 2, none⟩ = some (.int .i64 0) ∧ w.frozen? ⟨b, 0, none⟩ = false ∧ w.frozen? ⟨b, 1, none⟩ = false ∧ w.frozen? ⟨b, 2, none⟩ = false := by
  refine ⟨?_, ?_, ?_, ?_, ?_, ?_⟩
  · rw [cell_of_row w b 0 _ _ _ h]; rfl
  · rw [cell_of_row w b 1 _ _ _ h]; rfl
  · rw [cell_of_row w b 2 _ _ _ h]; rfl
  · simp [World.frozen?, h]
  · simp [World.frozen?, h]
  · simp [World.frozen?, h]

theorem tok_set {w : World} {b : Nat} {u0 u1 u2 : Value} (r0 : w.cell? ⟨b, 0, none⟩ = some u0) (r1 : w.cell? ⟨b, 1, none⟩ = some u1) (r2 : w.cell? ⟨b, 2, none⟩ = some u2) (v0 v1 v2 : Value) :
    (((w.setCell ⟨b, 0, none⟩ v0).setCell ⟨b, 1, none⟩ v1).setCell ⟨b, 2, none⟩ v2).cell? ⟨b, 0, none⟩ = some v0 ∧ (((w.setCell ⟨b, 0, none⟩ v0).setCell ⟨b, 1, none⟩ v1).setCell ⟨b, 2, none⟩ v2).cell? ⟨b, 1, none⟩ = some v1 ∧ (((w.setCell ⟨b, 0, none⟩ v0).setCell ⟨b, 1, none⟩ v1).setCell ⟨b, 2, none⟩ v2).cell? ⟨b, 2, none⟩ = some v2 := by
  refine ⟨?_, ?_, ?_⟩
  · rw [cell_set _ _ _ _ _ (by decide), cell_set _ _ _ _ _ (by decide)]
    exact World.cell?_setCell_same _ _ _ r0
  · rw [cell_set _ _ _ _ _ (by decide)]
    exact World.cell?_setCell_same _ _ _ ((cell_set _ _ _ _ _ (by decide)).trans r1)
  · exact World.cell?_setCell_same _ _ _ ((cell_set _ _ _ _ _ (by decide)).trans ((cell_set _ _ _ _ _ (by decide)).trans r2))
theorem tok_below {w W : World} {b B : Nat} (h : Below B w W) (hb : B ≤ b) (v0 v1 v2 : Value) : Below B w (((W.setCell ⟨b, 0, none⟩ v0).setCell ⟨b, 1, none⟩ v1).setCell ⟨b, 2, none⟩ v2) :=
  ((h.setCell hb _).setCell hb _).setCell hb _

theorem tok_results (tmps : Array Value) (W : World) (b : Nat) (v0 v1 v2 : Value) (h2 : tmps[2]?.getD undef = .pointer (some ⟨b, 0, none⟩)) (c0 : W.cell? ⟨b, 0, none⟩ = some v0) (c1 : W.cell? ⟨b, 1, none⟩ = some v1) (c2 : W.cell? ⟨b, 2, none⟩ = some v2) :
    (results Tryz.f20 tmps).run Tryz.prog W = .ok (.tuple #[.agg #[v0, v1, v2], tmps[3]?.getD undef]) W := by
  simp [results, Tryz.results20, go_sem, h2, c0, c1, c2]

set_option maxRecDepth 100000 in
set_option maxHeartbeats 1000000 in
theorem tokenOf_str (q : ByteArray) (hq : q.size ≤ 6000) (hq0 : 0 < q.size) (hs : smallB (q[0].toNat : Int) = false) (hc : capitalB (q[0].toNat : Int) = false) (hd : digitB (q[0].toNat : Int) = false) (h34 : ((q[0].toNat : Int) == 34) = true) (w : World) :
    Calls Tryz.prog 20 #[.string q] w fun ev w' => TPostR q ev ∧ Below w.heap.size w w' := by
  have HT : Hid (tokAt q 0 = (strAt q 0).map fun x => (kStr, strOfNums x.1, x.2)) := by
    show _ = _
    unfold tokAt
    rw [dif_pos hq0, hs, hc, hd, h34]
    rfl
  have hI0 : (0 : Int) < (q.size : Int) := by omega
  go_enter Tryz.func20, Tryz.ntmps20
  go_wp2_with (first | (go_at_call 32; refine (low_any _ _).mono ?_; rintro e w' ⟨rfl, rfl⟩; rw [hs]) | (go_at_call 33; refine (high_any _ _).mono ?_; rintro e w' ⟨rfl, rfl⟩; rw [hc]) | (go_at_call 34; refine (digitR_any _ _).mono ?_; rintro e w' ⟨rfl, rfl⟩; rw [hd]))
  refine (strOf_any q hq hq0 _).mono ?_
  rintro ev w1 ⟨hS, hb1⟩
  have hbw : Below w.heap.size w w1 := ((Below.refl _ _).alloc (Nat.le_refl _) _).trans (hb1.mono (by simp))
  have hR := (hb1.block w.heap.size (by simp)).trans (heap_alloc_new w (.cells #[.string ⟨#[]⟩, .string ⟨#[]⟩, .int .i64 0] 53))
  obtain ⟨r0, r1, r2, f0, f1, f2⟩ := tok_block hR
  unfold SPostR at hS
  cases hv : strAt q 0 with
  | none =>
    rw [hv] at hS
    subst hS
    have HV : Hid (tokAt q 0 = none) := by show _ = _; rw [HT.out, hv]; rfl
    clear hv
    go_wp2
    obtain ⟨t0, t1, t2⟩ := tok_set r0 r1 r2 (.string ⟨#[115, 116, 114]⟩) (.string ⟨#[]⟩) (.int .i64 0)
    refine bodyPost_ret (tok_results _ _ w.heap.size _ _ _ rfl t0 t1 t2) rfl ?_
    exact ⟨TPostR.no HV.out, tok_below hbw (Nat.le_refl _) _ _ _⟩
  | some x =>
    obtain ⟨l, m⟩ := x
    rw [hv] at hS
    subst hS
    have HV : Hid (tokAt q 0 = some (kStr, strOfNums l, m)) := by show _ = _; rw [HT.out, hv]; rfl
    clear hv
    generalize strOfNums l = t at HV
    go_wp2
    obtain ⟨t0, t1, t2⟩ := tok_set r0 r1 r2 (.string ⟨#[115, 116, 114]⟩) (.string t) (.int .i64 0)
    refine bodyPost_ret (tok_results _ _ w.heap.size _ _ _ rfl t0 t1 t2) rfl ?_
    exact ⟨TPostR.yes HV.out, tok_below hbw (Nat.le_refl _) _ _ _⟩
end Go.Proofs.YtpflpbfnifpchaaGreatDoor
