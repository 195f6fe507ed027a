/- The law LexTexts: its walk. -/
import Derived.Test.YtpflpbfnifpchaaGreatDoorTextsD
import Derived.Deep.Strs
namespace Go.Proofs.YtpflpbfnifpchaaGreatDoor
open Go.RowKit

theorem coded_of {errv : Value} {c : Int} (w : World) (hc : ∀ W, Below w.heap.size w W → Calls Tryz.prog 22 #[errv] W fun ev w' => ev = .returned (.tuple #[.int .i64 c, .int .i64 (-1)]) ∧ Below W.heap.size W w') :
    Calls Tryz.prog 14 #[errv, .int .i64 c] w fun ev w' => ev = .returned (.bool true) ∧ Below w.heap.size w w' := by
  go_enter Tryz.func14, Tryz.ntmps14
  go_wp2_with fail
  refine (hc _ (Below.refl _ _)).mono ?_
  rintro ev w1 ⟨rfl, hb1⟩
  go_wp2
  go_ret
  exact ⟨rfl, hb1⟩

theorem own_form {w : World} {B t n : Nat} {vt : Value} {tk : List Value} (ho : w.ownsRow B t 3 vt n tk) (hl : tk.length = 3 * n) : ∃ xa g cap, vt = .slice xa n cap ∧ (0 < n → xa = some ⟨g, 0, none⟩) ∧ (0 < n → g < w.heap.size) ∧ ∀ k v, tk[k]? = some v → w.cell? ⟨g, k, none⟩ = some v := by
  rcases Nat.eq_zero_or_pos n with h0 | h0
  · subst h0
    have htk : tk = [] := List.eq_nil_of_length_eq_zero (by omega)
    subst htk
    rcases ho.2 with ⟨rfl, _⟩ | ⟨g, cap, cur, rfl, _⟩
    · exact ⟨none, 0, 0, rfl, by simp, by simp, by simp⟩
    · exact ⟨some ⟨g, 0, none⟩, g, cap, rfl, by simp, by simp, by simp⟩
  · obtain ⟨g, cap, e, h1, h2⟩ := owned_cells ho hl h0
    exact ⟨some ⟨g, 0, none⟩, g, cap, e, fun _ => rfl, fun _ => h1, h2⟩
theorem holds_of_Z {w : World} {g : Nat} {l : List (ByteArray × ByteArray × Int)} (hc : ∀ k v, (cellsZ l)[k]? = some v → w.cell? ⟨g, k, none⟩ = some v) : Holds w g (plainT l) := fun j y hy => by
  have hj : j < l.length := by
    have := (List.getElem?_eq_some_iff.1 hy).1
    simpa [plainT] using this
  have e := plain_get (l := l) (j := j) (x := l[j]) (by simp [hj])
  rw [hy] at e
  simp only [Option.some.injEq] at e
  subst e
  obtain ⟨e1, e2, e3⟩ := cellsZ_get l j l[j] (by simp [hj])
  exact ⟨hc _ _ e1, hc _ _ e2, _, hc _ _ e3⟩
theorem plain_len (l : List (ByteArray × ByteArray × Int)) : (plainT l).length = l.length := by simp [plainT]

set_option maxHeartbeats 2000000 in
theorem lexTexts_any (l : List (ByteArray × ByteArray × Int)) (xa : Option Addr) (x xo cap : Nat) (hn : l.length ≤ 140737488355327) (hz : ∀ y ∈ l, y.2.1.size ≤ 140737488355327) (a : Nat → Addr) (w : World) (E : TEnv w.heap.size (a 0) (a 1) (a 2) w) (X : Errs a w) (hxa : 0 < l.length → xa = some ⟨x, xo, none⟩) (hx : 0 < l.length → x < w.heap.size) (hc : InRow w x xo l) :
    Calls Tryz.prog 4 #[.slice xa l.length cap] w fun ev w' => ev = .returned (.bool true) ∧ Below w.heap.size w w' := by
  have hcb : ∀ W, Below w.heap.size w W → InRow W x xo l := fun W hb j y hy => by
    have hlt : j < l.length := (List.getElem?_eq_some_iff.1 hy).1
    exact hc.below hb (hx (by omega)) j y hy
  go_enter Tryz.func4, Tryz.ntmps4
  go_wp2_with fail
  refine (one_any (a 0) (a 1) w E.lenv).mono ?_
  rintro ev w1 ⟨rfl, hb1⟩
  go_wp2_with fail
  refine (smallLaw_any l xa x xo cap hn hz w1 hxa (hcb w1 hb1)).mono ?_
  rintro ev w1' ⟨rfl, rfl⟩
  by_cases hsm : l.length ≤ 600 ∧ sumW l ≤ 3000
  rotate_left
  · have hd : decide (l.length ≤ 600 ∧ sumW l ≤ 3000) = false := by rw [decide_eq_false_iff_not]; exact hsm
    rw [hd]
    clear hd
    go_wp2_with fail
    go_ret
    exact ⟨rfl, hb1⟩
  have hd : decide (l.length ≤ 600 ∧ sumW l ≤ 3000) = true := by rw [decide_eq_true_iff]; exact hsm
  rw [hd]
  obtain ⟨h6, hs3⟩ := hsm
  have hsz : ∀ y ∈ l, y.2.1.size ≤ 3000 := fun y hy => by have := sumW_mem l y hy; omega
  have hszp : ∀ y ∈ plainT l, y.2.1.size ≤ 6000 := fun y hy => by
    obtain ⟨z, hz1, rfl⟩ := List.mem_map.1 hy
    have := hsz z hz1
    simp only
    omega
  clear hd hs3
  go_wp2_with fail
  refine (tokens_any l xa x xo cap h6 w1' hxa (fun h => Nat.lt_of_lt_of_le (hx h) hb1.size) (hcb w1' hb1)).mono ?_
  rintro ev w2 ⟨vt, rfl, ho, hb2⟩
  have hb2w := hb1.trans (hb2.mono hb1.size)
  have E2 := (E.below hb2w).up hb2w.size
  obtain ⟨xb, g, cap', rfl, hxb, hg, hcz⟩ := own_form ho (cellsZ_len l)
  have hpl := plain_len l
  have HPL := toHid hpl
  have hT0 := text_any (plainT l) xb g cap' (by omega) hszp (a 0) (a 1) (a 2) w2 E2 (by rw [hpl]; exact hxb) (by rw [hpl]; exact hg) (holds_of_Z hcz)
  rw [hpl] at hT0
  clear hpl ho
  go_wp2_with fail
  refine hT0.mono ?_
  rintro ev w3 ⟨hT, hb3⟩
  have hb3w := hb2w.trans (hb3.mono hb2w.size)
  clear hT0
  have hR0 := tokensText_any l xa x xo cap h6 hsz w3 hxa (fun h => Nat.lt_of_lt_of_le (hx h) hb3w.size) (hcb w3 hb3w)
  rcases hT with ⟨rfl, hno⟩ | ⟨s, hs, rfl⟩
  · go_wp2_with fail
    refine hR0.mono ?_
    rintro ev w4 ⟨hR, hb4⟩
    have hb4w := hb3w.trans (hb4.mono hb3w.size)
    rcases hR with ⟨rfl, _⟩ | ⟨s, hs, _⟩
    · clear hR0
      go_wp2_with fail
      refine (coded_of (c := 3) w4 (fun W hW => ?_)).mono ?_
      · refine (code_sent a 2 (by decide) W (X.below (hb4w.trans (hW.mono hb4w.size)))).mono ?_
        rintro ev w' ⟨h1, h2⟩
        exact ⟨h1, h2⟩
      rintro ev w5 ⟨rfl, hb5⟩
      have hee : ((⟨#[]⟩ : ByteArray).toList == (⟨#[]⟩ : ByteArray).toList) = true := by simp
      go_wp2_with fail
      go_ret
      exact ⟨rfl, hb4w.trans (hb5.mono hb4w.size)⟩
    · exact absurd hs (hno s)
  · go_wp2_with fail
    refine hR0.mono ?_
    rintro ev w4 ⟨hR, hb4⟩
    have hb4w := hb3w.trans (hb4.mono hb3w.size)
    rcases hR with ⟨_, hno⟩ | ⟨s', hs', rfl⟩
    · exact absurd hs (hno s)
    · have e : s' = s := (text_same hs.1 hs').trans (text_same hs.1 hs).symm
      subst e
      have hee : (s'.toList == s'.toList) = true := by simp
      clear hR0
      go_wp2_with fail
      go_ret
      exact ⟨rfl, hb4w⟩
end Go.Proofs.YtpflpbfnifpchaaGreatDoor

/- The law LexTexts: tokens that are handed in, read out of memory. -/
namespace Go.Proofs.YtpflpbfnifpchaaGreatDoor
open Go.RowKit Go.ChangeShapes Go.WideShapes Go.Deep

theorem cellsTokR : Tryz.prog.cellsOf 53 = 3 := by kernel_rfl
theorem cellsStrR : Tryz.prog.cellsOf 9 = 1 := by kernel_rfl
theorem cellsIntR : Tryz.prog.cellsOf 3 = 1 := by kernel_rfl
theorem bytesTokR : Tryz.prog.bytesOf 53 = 40 := by kernel_rfl
theorem weights_all {H : Type} {P : Program} {e : TypeId} : ∀ {l : List (DataW H)} {d : DataW H}, d ∈ l → ∀ n ∈ d.weights P e, n ∈ DataW.weightsAll P e l
  | [], d, h => by simp at h
  | x :: l, d, h => fun n hn => by
    simp only [DataW.weightsAll]
    rcases List.mem_cons.1 h with rfl | h
    · exact List.mem_append_left _ hn
    · exact List.mem_append_right _ (weights_all h n hn)

set_option maxRecDepth 100000 in
theorem open_tokens {H : Type} {enc : TypeId × Value → H} {W : World} {base : Nat} {sp : Nat → Bool} {held : Bool} {fuel : Nat} {cs : List Value} {y : DataW H × List MemPlace} (h : DataW.trod enc Tryz.prog W base sp held fuel 28 cs = some y) (hw : ∀ n ∈ y.1.weights Tryz.prog 28, n ≤ 140737488351232) :
    ∃ (xa : Option Addr) (xb xo cap : Nat) (l : List (ByteArray × ByteArray × Int)), cs = [.slice xa l.length cap] ∧ l.length * 40 ≤ 140737488351232 ∧ (0 < l.length → xa = some ⟨xb, xo, none⟩) ∧ InRow W xb xo l ∧ (∀ z ∈ l, z.2.1.size ≤ 140737488351232) ∧ ∀ p ∈ y.2, ∀ bb, p ≠ .map bb := by
  rcases open_slice Tryz.underlying28 h with ⟨rfl, rfl⟩ | ⟨a, len, cap, m, n, D, Pl, rfl, hb, hl, hm, hmm, rfl, hx⟩
  · exact ⟨none, 0, 0, 0, [], rfl, Nat.zero_le _, by simp, fun j x hj => by simp at hj, by simp, by simp⟩
  have hlm : len ≤ m := by rw [hmm]; split <;> omega
  rw [cellsTokR] at hx
  have each : ∀ i, i < m → ∃ z : ByteArray × ByteArray × Int, W.cell? (a.add (i * 3)) = some (.string z.1) ∧ W.cell? (a.add (i * 3 + 1)) = some (.string z.2.1) ∧ W.cell? (a.add (i * 3 + 2)) = some (.int .i64 z.2.2) ∧ D i = .agg [.lit (.string z.1.data.toList), .lit (.string z.2.1.data.toList), .lit (.int .i64 z.2.2)] ∧ Pl i = [] := by
    intro i hi
    obtain ⟨cs', h1, h2⟩ := hx i hi
    obtain ⟨_, hlen, hcell⟩ := World.cells?_some h1
    obtain ⟨y0, y1, y2, k, hxy, _, g0, g1, g2⟩ := trod_struct3 Tryz.underlying53 h2
    match cs', hlen with
    | [v0, v1, v2], _ =>
      simp [cellsStrR, cellsIntR] at g0 g1 g2
      obtain ⟨s0, q0, r0, _⟩ := DataW.trod_string Tryz.underlying9 g0
      obtain ⟨s1, q1, r1, _⟩ := DataW.trod_string Tryz.underlying9 g1
      obtain ⟨z2, q2, r2, _⟩ := DataW.trod_int Tryz.underlying3 g2
      simp only [List.cons.injEq, and_true] at q0 q1 q2
      subst q0 q1 q2
      have e0 := hcell 0 (by omega)
      have e1 := hcell 1 (by omega)
      have e2 := hcell 2 (by omega)
      rw [add_add] at e0 e1 e2
      simp only [Prod.mk.injEq] at hxy
      refine ⟨(s0, s1, z2), by simpa using e0, by simpa using e1, by simpa using e2, ?_, ?_⟩
      · rw [hxy.1, r0, r1, r2]
      · rw [hxy.2, r0, r1, r2]
        rfl
  obtain ⟨f, hf⟩ := choose_lt each
  have hgp : ∀ p ∈ MemPlace.row a (m * Tryz.prog.cellsOf 53) ++ (List.range m).flatMap Pl, ∀ bb, p ≠ .map bb := fun p hp bb e => by
    rcases List.mem_append.1 hp with h1 | h1
    · obtain ⟨j, _, rfl⟩ := MemPlace.mem_row.1 h1
      cases e
    · obtain ⟨i, hi, h2⟩ := List.mem_flatMap.1 h1
      rw [(hf i (List.mem_range.1 hi)).2.2.2.2] at h2
      simp at h2
  have hwl : (len + (m - len)) * 40 ≤ 140737488351232 := by
    refine hw _ ?_
    simp only [DataW.weights, Tryz.underlying28, bytesTokR]
    simp
  have hws : ∀ i, i < len → (f i).2.1.size ≤ 140737488351232 := fun i hi => by
    refine hw _ ?_
    simp only [DataW.weights, Tryz.underlying28]
    refine List.mem_cons_of_mem _ (List.mem_append_left _ (weights_all (List.mem_map.2 ⟨i, List.mem_range.2 hi, rfl⟩) _ ?_))
    rw [(hf i (by omega)).2.2.2.1]
    simp [DataW.weights, Tryz.underlying53, DataW.weightsEach]
  rcases Nat.eq_zero_or_pos len with h0 | h0
  · subst h0
    exact ⟨some a, 0, 0, cap, [], rfl, Nat.zero_le _, by simp, fun j x hj => by simp at hj, by simp, hgp⟩
  · obtain ⟨xb, xo, spot⟩ := a
    have hspot : spot = none := by simpa [Addr.add] using World.cell?_spot (hf 0 (by omega)).1
    subst hspot
    refine ⟨some ⟨xb, xo, none⟩, xb, xo, cap, (List.range len).map f, by simp, by simp; omega, fun _ => rfl, fun j x hj => ?_, fun z hz => ?_, hgp⟩
    · have hjl : j < len := by
        have := (List.getElem?_eq_some_iff.1 hj).1
        simpa using this
      have ex : f j = x := by
        rw [List.getElem?_map, List.getElem?_range hjl] at hj
        simpa using hj
      subst ex
      obtain ⟨c0, c1, c2, _⟩ := hf j (by omega)
      rw [add_plain] at c0 c1 c2
      exact ⟨c0, by rw [Nat.add_assoc]; exact c1, by rw [Nat.add_assoc]; exact c2⟩
    · obtain ⟨i, hi, rfl⟩ := List.mem_map.1 hz
      exact hws i (List.mem_range.1 hi)
end Go.Proofs.YtpflpbfnifpchaaGreatDoor
