/- slices.Clone; Copy of a memory, by contracts. -/
import Derived.Test.YtbkmgempejckeaaDoorMemJ
import Derived.Test.YtbkmgempejckeaaDoorMemR
namespace Go.Proofs.YtbkmgempejckeaaDoor
open Go.RowKit

theorem empty_own (w : World) (e size : Nat) : (w.alloc (.cells #[] e)).ownsRow w.heap.size e size (.slice (some ⟨w.heap.size, 0, none⟩) 0 0) 0 [] :=
  ⟨by simp, .inr ⟨w.heap.size, 0, #[], rfl, Nat.le_refl _, heap_alloc_new w _, Nat.le_refl _, by unfold maxLen; omega, by simp, by simp⟩⟩

theorem nilYW (n c : Nat) (w : World) : (binOp .eql 32 (.slice none n c) (.slice none 0 0)).run Tryd.prog w = .ok (.bool true) w := by kernel_rfl
theorem nilNW (ad : Addr) (n c : Nat) (w : World) : (binOp .eql 32 (.slice (some ad) n c) (.slice none 0 0)).run Tryd.prog w = .ok (.bool false) w := by kernel_rfl
set_option maxHeartbeats 2000000 in
set_option maxRecDepth 100000 in
theorem cloneW_any (ao : Option Addr) (n c : Nat) (w : World) (xs : List Value) (hl : xs.length = n * 1) (hsrc : 0 < n → ∃ ad : Addr, ao = some ad ∧ ad.block < w.heap.size ∧ ∀ j v, xs[j]? = some v → w.cell? (ad.add j) = some v) (h1 : ∀ v ∈ xs, v.oneCell' = true) (hn : n ≤ 300000) :
    Calls Tryd.prog 46 #[.slice ao n c] w fun ev w' => ∃ ao' c', ev = .returned (.slice ao' n c') ∧ w'.ownsRow w.heap.size 40 1 (.slice ao' n c') n xs ∧ Below w.heap.size w w' := by
  obtain ⟨i0, hi0, hz0, hz1, hz2⟩ := infoU64
  cases ao with
  | none =>
    obtain rfl : n = 0 := by
      rcases Nat.eq_zero_or_pos n with h | h
      · exact h
      · obtain ⟨_, e, _⟩ := hsrc h; cases e
    obtain rfl : xs = [] := List.eq_nil_of_length_eq_zero (by omega)
    have hq := nilYW
    go_enter Tryd.func46, Tryd.ntmps46
    go_wp2_with fail
    go_ret
    exact ⟨none, 0, rfl, ⟨rfl, .inl ⟨rfl, rfl⟩⟩, Below.refl _ _⟩
  | some ad =>
    have HS : Hid (∀ j v, xs[j]? = some v → w.cell? (ad.add j) = some v) := fun j v hj => by
      rcases Nat.eq_zero_or_pos n with h | h
      · subst h; have := (List.getElem?_eq_some_iff.1 hj).1; omega
      · obtain ⟨_, e, _, h⟩ := hsrc h; cases e; exact h j v hj
    clear hsrc
    have hq := nilNW
    go_enter Tryd.func46, Tryd.ntmps46
    go_wp2_with (at_builtin; refine wpList_append_own _ rfl _ _ _ rfl w.heap.size 40 i0 (.int .u64 0) 1 8 Tryd.underlying32 hi0 hz0 hz1 hz2 rfl (by decide) (.slice (some ⟨w.heap.size, 0, none⟩) 0 0) 0 [] rfl (empty_own w 40 1) ad n c xs rfl hl (fun j v hj => (((Below.refl _ _).alloc (Nat.le_refl _) _).cell (p := ad.add j) (lt_of_cell (HS.out j v hj))).trans (HS.out j v hj)) h1 (by unfold maxLen; omega) (by omega) (by simp) ?_; intro v' w' hown hgrow hnil)
    rw [Nat.zero_add, List.nil_append] at hown
    obtain ⟨ao', c', rfl⟩ := own_slice hown
    go_ret
    exact ⟨ao', c', rfl, hown, ((Below.refl _ _).alloc (Nat.le_refl _) _).grown hgrow (by simp) (fun k hk => by cases hk; exact Nat.le_refl _)⟩
theorem nilYI (n c : Nat) (w : World) : (binOp .eql 55 (.slice none n c) (.slice none 0 0)).run Tryd.prog w = .ok (.bool true) w := by kernel_rfl
theorem nilNI (ad : Addr) (n c : Nat) (w : World) : (binOp .eql 55 (.slice (some ad) n c) (.slice none 0 0)).run Tryd.prog w = .ok (.bool false) w := by kernel_rfl
set_option maxHeartbeats 2000000 in
set_option maxRecDepth 100000 in
theorem cloneI_any (ao : Option Addr) (n c : Nat) (w : World) (xs : List Value) (hl : xs.length = n * 2) (hsrc : 0 < n → ∃ ad : Addr, ao = some ad ∧ ad.block < w.heap.size ∧ ∀ j v, xs[j]? = some v → w.cell? (ad.add j) = some v) (h1 : ∀ v ∈ xs, v.oneCell' = true) (hn : n ≤ 300000) :
    Calls Tryd.prog 47 #[.slice ao n c] w fun ev w' => ∃ ao' c', ev = .returned (.slice ao' n c') ∧ w'.ownsRow w.heap.size 70 2 (.slice ao' n c') n xs ∧ Below w.heap.size w w' := by
  obtain ⟨i0, hi0, hz0, hz1, hz2⟩ := infoMID
  cases ao with
  | none =>
    obtain rfl : n = 0 := by
      rcases Nat.eq_zero_or_pos n with h | h
      · exact h
      · obtain ⟨_, e, _⟩ := hsrc h; cases e
    obtain rfl : xs = [] := List.eq_nil_of_length_eq_zero (by omega)
    have hq := nilYI
    go_enter Tryd.func47, Tryd.ntmps47
    go_wp2_with fail
    go_ret
    exact ⟨none, 0, rfl, ⟨rfl, .inl ⟨rfl, rfl⟩⟩, Below.refl _ _⟩
  | some ad =>
    have HS : Hid (∀ j v, xs[j]? = some v → w.cell? (ad.add j) = some v) := fun j v hj => by
      rcases Nat.eq_zero_or_pos n with h | h
      · subst h; have := (List.getElem?_eq_some_iff.1 hj).1; omega
      · obtain ⟨_, e, _, h⟩ := hsrc h; cases e; exact h j v hj
    clear hsrc
    have hq := nilNI
    go_enter Tryd.func47, Tryd.ntmps47
    go_wp2_with (at_builtin; refine wpList_append_own _ rfl _ _ _ rfl w.heap.size 70 i0 (.agg #[.int .u64 0, .int .i64 0]) 2 16 Tryd.underlying55 hi0 hz0 hz1 hz2 rfl (by decide) (.slice (some ⟨w.heap.size, 0, none⟩) 0 0) 0 [] rfl (empty_own w 70 2) ad n c xs rfl hl (fun j v hj => (((Below.refl _ _).alloc (Nat.le_refl _) _).cell (p := ad.add j) (lt_of_cell (HS.out j v hj))).trans (HS.out j v hj)) h1 (by unfold maxLen; omega) (by omega) (by simp) ?_; intro v' w' hown hgrow hnil)
    rw [Nat.zero_add, List.nil_append] at hown
    obtain ⟨ao', c', rfl⟩ := own_slice hown
    go_ret
    exact ⟨ao', c', rfl, hown, ((Below.refl _ _).alloc (Nat.le_refl _) _).grown hgrow (by simp) (fun k hk => by cases hk; exact Nat.le_refl _)⟩
theorem nilYB (n c : Nat) (w : World) : (binOp .eql 34 (.slice none n c) (.slice none 0 0)).run Tryd.prog w = .ok (.bool true) w := by kernel_rfl
theorem nilNB (ad : Addr) (n c : Nat) (w : World) : (binOp .eql 34 (.slice (some ad) n c) (.slice none 0 0)).run Tryd.prog w = .ok (.bool false) w := by kernel_rfl
set_option maxHeartbeats 2000000 in
set_option maxRecDepth 100000 in
theorem cloneB_any (ao : Option Addr) (n c : Nat) (w : World) (xs : List Value) (hl : xs.length = n * 1) (hsrc : 0 < n → ∃ ad : Addr, ao = some ad ∧ ad.block < w.heap.size ∧ ∀ j v, xs[j]? = some v → w.cell? (ad.add j) = some v) (h1 : ∀ v ∈ xs, v.oneCell' = true) (hn : n ≤ 300000) :
    Calls Tryd.prog 48 #[.slice ao n c] w fun ev w' => ∃ ao' c', ev = .returned (.slice ao' n c') ∧ w'.ownsRow w.heap.size 4 1 (.slice ao' n c') n xs ∧ Below w.heap.size w w' := by
  obtain ⟨i0, hi0, hz0, hz1, hz2⟩ := infoBool
  cases ao with
  | none =>
    obtain rfl : n = 0 := by
      rcases Nat.eq_zero_or_pos n with h | h
      · exact h
      · obtain ⟨_, e, _⟩ := hsrc h; cases e
    obtain rfl : xs = [] := List.eq_nil_of_length_eq_zero (by omega)
    have hq := nilYB
    go_enter Tryd.func48, Tryd.ntmps48
    go_wp2_with fail
    go_ret
    exact ⟨none, 0, rfl, ⟨rfl, .inl ⟨rfl, rfl⟩⟩, Below.refl _ _⟩
  | some ad =>
    have HS : Hid (∀ j v, xs[j]? = some v → w.cell? (ad.add j) = some v) := fun j v hj => by
      rcases Nat.eq_zero_or_pos n with h | h
      · subst h; have := (List.getElem?_eq_some_iff.1 hj).1; omega
      · obtain ⟨_, e, _, h⟩ := hsrc h; cases e; exact h j v hj
    clear hsrc
    have hq := nilNB
    go_enter Tryd.func48, Tryd.ntmps48
    go_wp2_with (at_builtin; refine wpList_append_own _ rfl _ _ _ rfl w.heap.size 4 i0 (.bool false) 1 1 Tryd.underlying34 hi0 hz0 hz1 hz2 rfl (by decide) (.slice (some ⟨w.heap.size, 0, none⟩) 0 0) 0 [] rfl (empty_own w 4 1) ad n c xs rfl hl (fun j v hj => (((Below.refl _ _).alloc (Nat.le_refl _) _).cell (p := ad.add j) (lt_of_cell (HS.out j v hj))).trans (HS.out j v hj)) h1 (by unfold maxLen; omega) (by omega) (by simp) ?_; intro v' w' hown hgrow hnil)
    rw [Nat.zero_add, List.nil_append] at hown
    obtain ⟨ao', c', rfl⟩ := own_slice hown
    go_ret
    exact ⟨ao', c', rfl, hown, ((Below.refl _ _).alloc (Nat.le_refl _) _).grown hgrow (by simp) (fun k hk => by cases hk; exact Nat.le_refl _)⟩
/-- The world behind Copy's first region. -/
theorem copy_first (w : World) (h ol c u t ot : Int) (v3 v7 v8 v9 v10 : Value) : OwnS 57 w w.heap.size h ol c v3 u t ot v7 v8 v9 v10 [] (w.alloc (.cells #[.int .i64 h, .int .i64 ol, .int .i64 c, v3, .int .i64 u, .int .i64 t, .int .i64 ot, v7, v8, v9, v10] 57)) :=
  ⟨(Below.refl _ _).alloc (Nat.le_refl _) _, Nat.le_refl _, heap_alloc_new w _, show w.heap.size + 1 ≤ (w.alloc _).heap.size by simp⟩
set_option maxHeartbeats 4000000 in
set_option maxRecDepth 100000 in
theorem copy_any (p : Nat) (m : MD) (w : World) (R : RepM p 0 m w) (b1 : m.W.length ≤ 300000) (b2 : m.R.length ≤ 300000) (b3 : m.K.length ≤ 300000) (b4 : m.I.length ≤ 300000) (b5 : m.C.length ≤ 300000) :
    Calls Tryd.prog 25 #[.pointer (some ⟨p, 0, none⟩)] w fun ev w' => ∃ (a3 a7 a8 a9 a10 : Option Addr) (k3 k7 k8 k9 k10 : Nat), ev = .returned (.pointer (some ⟨w.heap.size, 0, none⟩)) ∧
      OwnS 57 w w.heap.size m.half m.old m.card (.slice a3 m.W.length k3) m.used m.top m.oldTop (.slice a7 m.R.length k7) (.slice a8 m.K.length k8) (.slice a9 m.I.length k9) (.slice a10 m.C.length k10) [(40, 1, .slice a3 m.W.length k3, m.W.length, wordsV m.W), (40, 1, .slice a7 m.R.length k7, m.R.length, wordsV m.R), (40, 1, .slice a8 m.K.length k8, m.K.length, wordsV m.K), (70, 2, .slice a9 m.I.length k9, m.I.length, idsV m.I), (4, 1, .slice a10 m.C.length k10, m.C.length, boolsV m.C)] w' := by
  obtain ⟨_, _, _, _, _, hp, M, ⟨aW, cW, rfl, rW⟩, ⟨aR, cR, rfl, rR⟩, ⟨aK, cK, rfl, rK⟩, ⟨aI, cI, rfl, rI⟩, ⟨aC, cC, rfl, rC⟩⟩ := R
  have HW : Hid (RowV w (.slice aW m.W.length cW) m.W.length (wordsV m.W)) := ⟨_, _, rfl, rW⟩
  have HR : Hid (RowV w (.slice aR m.R.length cR) m.R.length (wordsV m.R)) := ⟨_, _, rfl, rR⟩
  have HK : Hid (RowV w (.slice aK m.K.length cK) m.K.length (wordsV m.K)) := ⟨_, _, rfl, rK⟩
  have HI : Hid (RowV w (.slice aI m.I.length cI) m.I.length (idsV m.I)) := ⟨_, _, rfl, rI⟩
  have HC : Hid (RowV w (.slice aC m.C.length cC) m.C.length (boolsV m.C)) := ⟨_, _, rfl, rC⟩
  have M' : MemAt p m.half m.old m.card (.slice aW m.W.length cW) m.used m.top m.oldTop (.slice aR m.R.length cR) (.slice aK m.K.length cK) (.slice aI m.I.length cI) (.slice aC m.C.length cC) w := ⟨M.c0, M.c1, M.c2, M.c3, M.c4, M.c5, M.c6, M.c7, M.c8, M.c9, M.c10⟩
  have HM := toHid M'
  obtain ⟨c0, c1, c2, c3, c4, c5, c6, c7, c8, c9, c10⟩ := M'
  have hne : p ≠ w.heap.size := by omega
  have hne2 : w.heap.size ≠ p := by omega
  clear M rW rR rK rI rC
  go_enter Tryd.func25, Tryd.ntmps25
  go_wp2_with fail
  have hS := copy_first w m.half m.old m.card m.used m.top m.oldTop (.slice aW m.W.length cW) (.slice aR m.R.length cR) (.slice aK m.K.length cK) (.slice aI m.I.length cI) (.slice aC m.C.length cC)
  clear c0 c1 c2 c3 c4 c5 c6 c7 c8 c9 c10
  have hS0 := hS.1
  refine (cloneW_any aW m.W.length cW _ (wordsV m.W) (by rw [lenV]; omega) (HW.out.below hS.1).src (one_words _) b1).mono ?_
  rintro ev w3 ⟨a3, k3, rfl, hown, hb⟩
  obtain ⟨hbk, hS⟩ := own_next3 hS (grown_of_below hb) hown
  obtain ⟨⟨r0, r1, r2, r3, r4, r5, r6, r7, r8, r9, r10⟩, rf⟩ := OB.mem hbk
  have rf3 := rf 3
  have hlx := lt_of_heap hbk
  have hzb : Below w.heap.size w w3 := ⟨hb.os.trans hS0.os, hb.tape.trans hS0.tape, hb.output.trans hS0.output, Nat.le_trans hS0.size hb.size, fun k hk => (hb.block k (Nat.lt_of_lt_of_le hk hS0.size)).trans (hS0.block k hk)⟩
  have hnx := (HM.out.below hzb hp).c7
  clear hown hb hbk rf r0 r1 r2 r4 r5 r6 hzb hS0
  go_wp2_with fail
  have hS0 := hS.1
  refine (cloneW_any aR m.R.length cR _ (wordsV m.R) (by rw [lenV]; omega) (HR.out.below hS.1).src (one_words _) b2).mono ?_
  rintro ev w7 ⟨a7, k7, rfl, hown, hb⟩
  obtain ⟨hbk, hS⟩ := own_next7 hS (grown_of_below hb) hown
  obtain ⟨⟨r0, r1, r2, r3, r4, r5, r6, r7, r8, r9, r10⟩, rf⟩ := OB.mem hbk
  have rf7 := rf 7
  have hlx := lt_of_heap hbk
  have hzb : Below w.heap.size w w7 := ⟨hb.os.trans hS0.os, hb.tape.trans hS0.tape, hb.output.trans hS0.output, Nat.le_trans hS0.size hb.size, fun k hk => (hb.block k (Nat.lt_of_lt_of_le hk hS0.size)).trans (hS0.block k hk)⟩
  have hnx := (HM.out.below hzb hp).c8
  clear hown hb hbk rf r0 r1 r2 r4 r5 r6 hzb hS0
  go_wp2_with fail
  have hS0 := hS.1
  refine (cloneW_any aK m.K.length cK _ (wordsV m.K) (by rw [lenV]; omega) (HK.out.below hS.1).src (one_words _) b3).mono ?_
  rintro ev w8 ⟨a8, k8, rfl, hown, hb⟩
  obtain ⟨hbk, hS⟩ := own_next8 hS (grown_of_below hb) hown
  obtain ⟨⟨r0, r1, r2, r3, r4, r5, r6, r7, r8, r9, r10⟩, rf⟩ := OB.mem hbk
  have rf8 := rf 8
  have hlx := lt_of_heap hbk
  have hzb : Below w.heap.size w w8 := ⟨hb.os.trans hS0.os, hb.tape.trans hS0.tape, hb.output.trans hS0.output, Nat.le_trans hS0.size hb.size, fun k hk => (hb.block k (Nat.lt_of_lt_of_le hk hS0.size)).trans (hS0.block k hk)⟩
  have hnx := (HM.out.below hzb hp).c9
  clear hown hb hbk rf r0 r1 r2 r4 r5 r6 hzb hS0
  go_wp2_with fail
  have hS0 := hS.1
  refine (cloneI_any aI m.I.length cI _ (idsV m.I) (by rw [lenI]) (HI.out.below hS.1).src (one_ids _) b4).mono ?_
  rintro ev w9 ⟨a9, k9, rfl, hown, hb⟩
  obtain ⟨hbk, hS⟩ := own_next9 hS (grown_of_below hb) hown
  obtain ⟨⟨r0, r1, r2, r3, r4, r5, r6, r7, r8, r9, r10⟩, rf⟩ := OB.mem hbk
  have rf9 := rf 9
  have hlx := lt_of_heap hbk
  have hzb : Below w.heap.size w w9 := ⟨hb.os.trans hS0.os, hb.tape.trans hS0.tape, hb.output.trans hS0.output, Nat.le_trans hS0.size hb.size, fun k hk => (hb.block k (Nat.lt_of_lt_of_le hk hS0.size)).trans (hS0.block k hk)⟩
  have hnx := (HM.out.below hzb hp).c10
  clear hown hb hbk rf r0 r1 r2 r4 r5 r6 hzb hS0
  go_wp2_with fail
  have hS0 := hS.1
  refine (cloneB_any aC m.C.length cC _ (boolsV m.C) (by rw [lenB]; omega) (HC.out.below hS.1).src (one_bools _) b5).mono ?_
  rintro ev w10 ⟨a10, k10, rfl, hown, hb⟩
  obtain ⟨hbk, hS⟩ := own_next10 hS (grown_of_below hb) hown
  obtain ⟨⟨r0, r1, r2, r3, r4, r5, r6, r7, r8, r9, r10⟩, rf⟩ := OB.mem hbk
  have rf10 := rf 10
  have hlx := lt_of_heap hbk
  have hzb : Below w.heap.size w w10 := ⟨hb.os.trans hS0.os, hb.tape.trans hS0.tape, hb.output.trans hS0.output, Nat.le_trans hS0.size hb.size, fun k hk => (hb.block k (Nat.lt_of_lt_of_le hk hS0.size)).trans (hS0.block k hk)⟩
  have hnx := (HM.out.below hzb hp).c10
  clear hown hb hbk rf r0 r1 r2 r4 r5 r6 hzb hS0
  go_wp2_with fail
  go_ret
  exact ⟨a3, a7, a8, a9, a10, k3, k7, k8, k9, k10, rfl, hS⟩
end Go.Proofs.YtbkmgempejckeaaDoor
