/- slices.Clone; Copy of a memory, by contracts. -/
import Derived.Test.YtnenggkgfhgcnaaGreatDoorMemJ
import Derived.Test.YtnenggkgfhgcnaaGreatDoorJoF
import Derived.Laws.CopyOwn
namespace Go.Proofs.YtnenggkgfhgcnaaGreatDoor
open Go.RowKit

theorem empty_own (w : World) (e size : Nat) : (w.alloc (.cells #[] e)).ownsRow w.heap.size e size (.slice (some ⟨w.heap.size, 0, none⟩) 0 0) 0 [] :=
  ⟨by simp, .inr ⟨w.heap.size, 0, #[], rfl, Nat.le_refl _, heap_alloc_new w _, Nat.le_refl _, by unfold maxLen; omega, by simp, by simp⟩⟩

theorem nilYW (n c : Nat) (w : World) : (binOp .eql 26 (.slice none n c) (.slice none 0 0)).run Tryz.prog w = .ok (.bool true) w := by kernel_rfl
theorem nilNW (ad : Addr) (n c : Nat) (w : World) : (binOp .eql 26 (.slice (some ad) n c) (.slice none 0 0)).run Tryz.prog w = .ok (.bool false) w := by kernel_rfl
set_option maxHeartbeats 2000000 in
set_option maxRecDepth 100000 in
theorem cloneW_any (ao : Option Addr) (n c : Nat) (w : World) (xs : List Value) (hl : xs.length = n * 1) (hsrc : 0 < n → ∃ ad : Addr, ao = some ad ∧ ad.block < w.heap.size ∧ ∀ j v, xs[j]? = some v → w.cell? (ad.add j) = some v) (h1 : ∀ v ∈ xs, v.oneCell' = true) (hn : n ≤ 300000) :
    Calls Tryz.prog 60 #[.slice ao n c] w fun ev w' => ∃ ao' c', ev = .returned (.slice ao' n c') ∧ w'.ownsRow w.heap.size 50 1 (.slice ao' n c') n xs ∧ Below w.heap.size w w' := by
  obtain ⟨i0, hi0, hz0, hz1, hz2⟩ := infoU64
  cases ao with
  | none =>
    obtain rfl : n = 0 := by
      rcases Nat.eq_zero_or_pos n with h | h
      · exact h
      · obtain ⟨_, e, _⟩ := hsrc h; cases e
    obtain rfl : xs = [] := List.eq_nil_of_length_eq_zero (by omega)
    have hq := nilYW
    go_enter Tryz.func60, Tryz.ntmps60
    go_wp2_with fail
    go_ret
    exact ⟨none, 0, rfl, ⟨rfl, .inl ⟨rfl, rfl⟩⟩, Below.refl _ _⟩
  | some ad =>
    have HS : Hid (∀ j v, xs[j]? = some v → w.cell? (ad.add j) = some v) := fun j v hj => by
      rcases Nat.eq_zero_or_pos n with h | h
      · subst h; have := (List.getElem?_eq_some_iff.1 hj).1; omega
      · obtain ⟨_, e, _, h⟩ := hsrc h; cases e; exact h j v hj
    clear hsrc
    have hq := nilNW
    go_enter Tryz.func60, Tryz.ntmps60
    go_wp2_with (at_builtin; refine wpList_append_own _ rfl _ _ _ rfl w.heap.size 50 i0 (.int .u64 0) 1 8 Tryz.underlying26 hi0 hz0 hz1 hz2 rfl (by decide) (.slice (some ⟨w.heap.size, 0, none⟩) 0 0) 0 [] rfl (empty_own w 50 1) ad n c xs rfl hl (fun j v hj => (((Below.refl _ _).alloc (Nat.le_refl _) _).cell (p := ad.add j) (lt_of_cell (HS.out j v hj))).trans (HS.out j v hj)) h1 (by unfold maxLen; omega) (by omega) (by simp) ?_; intro v' w' hown hgrow hnil)
    rw [Nat.zero_add, List.nil_append] at hown
    obtain ⟨ao', c', rfl⟩ := own_slice hown
    go_ret
    exact ⟨ao', c', rfl, hown, ((Below.refl _ _).alloc (Nat.le_refl _) _).grown hgrow (by simp) (fun k hk => by cases hk; exact Nat.le_refl _)⟩
theorem nilYI (n c : Nat) (w : World) : (binOp .eql 53 (.slice none n c) (.slice none 0 0)).run Tryz.prog w = .ok (.bool true) w := by kernel_rfl
theorem nilNI (ad : Addr) (n c : Nat) (w : World) : (binOp .eql 53 (.slice (some ad) n c) (.slice none 0 0)).run Tryz.prog w = .ok (.bool false) w := by kernel_rfl
theorem nilYB (n c : Nat) (w : World) : (binOp .eql 28 (.slice none n c) (.slice none 0 0)).run Tryz.prog w = .ok (.bool true) w := by kernel_rfl
theorem nilNB (ad : Addr) (n c : Nat) (w : World) : (binOp .eql 28 (.slice (some ad) n c) (.slice none 0 0)).run Tryz.prog w = .ok (.bool false) w := by kernel_rfl
/-- The world behind Copy's first region. -/
theorem copy_first (w : World) (h ol c u t ot : Int) (v3 v7 v8 v9 v10 : Value) : OwnS 55 w w.heap.size h ol c v3 u t ot v7 v8 v9 v10 [] (w.alloc (.cells #[.int .i64 h, .int .i64 ol, .int .i64 c, v3, .int .i64 u, .int .i64 t, .int .i64 ot, v7, v8, v9, v10] 55)) :=
  ⟨(Below.refl _ _).alloc (Nat.le_refl _) _, Nat.le_refl _, heap_alloc_new w _, show w.heap.size + 1 ≤ (w.alloc _).heap.size by simp⟩
end Go.Proofs.YtnenggkgfhgcnaaGreatDoor

/- A memory of one's own that is written into; Alloc of an object without fields, by contracts. -/
namespace Go.Proofs.YtnenggkgfhgcnaaGreatDoor
open Go.RowKit

theorem own_setRow {w : World} {base e n g cap j : Nat} {xs : List Value} {u : Value} (h : w.ownsRow base e 1 (.slice (some ⟨g, 0, none⟩) n cap) n xs) : ∃ xs', (w.setCell ⟨g, j, none⟩ u).ownsRow base e 1 (.slice (some ⟨g, 0, none⟩) n cap) n xs' := by
  obtain ⟨h1, h2⟩ := h
  rcases h2 with ⟨h2, _⟩ | ⟨g', cap', cur, e1, hb, hg, hc, hm, hs, ht⟩
  · cases h2
  · cases e1
    refine ⟨(cur.setIfInBounds j u).toList.take (n * 1), ⟨?_, .inr ⟨g, cap, _, rfl, hb, heap_set_same hg, hc, hm, by simp [hs], rfl⟩⟩⟩
    rw [List.length_take]
    simp [hs]
    omega
/-- A memory of one's own, whatever is in it. -/
structure YS (w0 : World) (bx : Nat) (vW vR vK vI vC : Value) (nW nC : Nat) (w : World) : Prop where
  below : Below w0.heap.size w0 w
  lo : w0.heap.size ≤ bx
  ob : ∃ h ol c u t ot, OB 55 bx h ol c vW u t ot vR vK vI vC w
  wr : ∃ xs, w.ownsRow (bx + 1) 50 1 vW nW xs
  cr : ∃ xs, w.ownsRow (bx + 1) 4 1 vC nC xs
  rr : ∃ n xs, n ≤ 300000 ∧ w.ownsRow (bx + 1) 50 1 vR n xs
  wc : ∀ g, vW.ownBlock = some g → vC.ownBlock ≠ some g
  wR : ∀ g, vW.ownBlock = some g → vR.ownBlock ≠ some g
  cR : ∀ g, vC.ownBlock = some g → vR.ownBlock ≠ some g
theorem YS.keep {w0 : World} {bx : Nat} {vW vR vK vI vC : Value} {nW nC : Nat} {w w' : World} (Y : YS w0 bx vW vR vK vI vC nW nC w) (hb : Below w.heap.size w w') : YS w0 bx vW vR vK vI vC nW nC w' := by
  obtain ⟨h1, h2, ⟨h, ol, c, u, t, ot, h3⟩, ⟨xW, h4⟩, ⟨xC, h5⟩, ⟨n, xR, h6, h7⟩, h8, h9, h10⟩ := Y
  have f : ∀ k, k < w.heap.size → w'.heap[k]? = w.heap[k]? := hb.block
  exact ⟨h1.trans (hb.mono h1.size), h2, ⟨h, ol, c, u, t, ot, (f bx (lt_of_heap h3)).trans h3⟩, ⟨xW, ownsRow_far' h4 (fun k hk => f k (own_lt2 h4 k hk).2)⟩, ⟨xC, ownsRow_far' h5 (fun k hk => f k (own_lt2 h5 k hk).2)⟩, ⟨n, xR, h6, ownsRow_far' h7 (fun k hk => f k (own_lt2 h7 k hk).2)⟩, h8, h9, h10⟩
theorem YS.setW {w0 : World} {bx g cap j : Nat} {vR vK vI vC u : Value} {nW nC : Nat} {w : World} (Y : YS w0 bx (.slice (some ⟨g, 0, none⟩) nW cap) vR vK vI vC nW nC w) : YS w0 bx (.slice (some ⟨g, 0, none⟩) nW cap) vR vK vI vC nW nC (w.setCell ⟨g, j, none⟩ u) := by
  obtain ⟨h1, h2, ⟨h, ol, c, u', t, ot, h3⟩, ⟨xW, h4⟩, ⟨xC, h5⟩, ⟨n, xR, h6, h7⟩, h8, h9, h10⟩ := Y
  have hg := own_lt2 h4 g rfl
  refine ⟨h1.setCell (show w0.heap.size ≤ g by omega) _, h2, ⟨h, ol, c, u', t, ot, (heap_set _ _ _ _ _ (by omega)).trans h3⟩, own_setRow h4, ⟨xC, ownsRow_far' h5 (fun k hk => heap_set _ _ _ _ _ (fun e => h8 g rfl (by rw [hk, e])))⟩, ⟨n, xR, h6, ownsRow_far' h7 (fun k hk => heap_set _ _ _ _ _ (fun e => h9 g rfl (by rw [hk, e])))⟩, h8, h9, h10⟩
theorem YS.setC {w0 : World} {bx g cap j : Nat} {vR vK vI vW u : Value} {nW nC : Nat} {w : World} (Y : YS w0 bx vW vR vK vI (.slice (some ⟨g, 0, none⟩) nC cap) nW nC w) : YS w0 bx vW vR vK vI (.slice (some ⟨g, 0, none⟩) nC cap) nW nC (w.setCell ⟨g, j, none⟩ u) := by
  obtain ⟨h1, h2, ⟨h, ol, c, u', t, ot, h3⟩, ⟨xW, h4⟩, ⟨xC, h5⟩, ⟨n, xR, h6, h7⟩, h8, h9, h10⟩ := Y
  have hg := own_lt2 h5 g rfl
  refine ⟨h1.setCell (show w0.heap.size ≤ g by omega) _, h2, ⟨h, ol, c, u', t, ot, (heap_set _ _ _ _ _ (by omega)).trans h3⟩, ⟨xW, ownsRow_far' h4 (fun k hk => heap_set _ _ _ _ _ (fun e => h8 k hk (by rw [e]; rfl)))⟩, own_setRow h5, ⟨n, xR, h6, ownsRow_far' h7 (fun k hk => heap_set _ _ _ _ _ (fun e => h10 g rfl (by rw [hk, e])))⟩, h8, h9, h10⟩
theorem YS.setT {w0 : World} {bx : Nat} {vW vR vK vI vC : Value} {nW nC : Nat} {w : World} (Y : YS w0 bx vW vR vK vI vC nW nC w) (t' : Int) : YS w0 bx vW vR vK vI vC nW nC (w.setCell ⟨bx, 5, none⟩ (.int .i64 t')) := by
  obtain ⟨h1, h2, ⟨h, ol, c, u, t, ot, h3⟩, ⟨xW, h4⟩, ⟨xC, h5⟩, ⟨n, xR, h6, h7⟩, h8, h9, h10⟩ := Y
  refine ⟨h1.setCell h2 _, h2, ⟨h, ol, c, u, t', ot, (heap_set_same h3).trans rfl⟩, ⟨xW, ownsRow_far' h4 (fun k hk => heap_set _ _ _ _ _ (by have := (own_lt2 h4 k hk).1; omega))⟩, ⟨xC, ownsRow_far' h5 (fun k hk => heap_set _ _ _ _ _ (by have := (own_lt2 h5 k hk).1; omega))⟩, ⟨n, xR, h6, ownsRow_far' h7 (fun k hk => heap_set _ _ _ _ _ (by have := (own_lt2 h7 k hk).1; omega))⟩, h8, h9, h10⟩
theorem rowIn_ne {w w2 : World} {lo hi lo2 hi2 e s e2 s2 n n2 : Nat} {v v2 : Value} {xs xs2 : List Value} (h : RowIn w lo hi e s v n xs) (h2 : RowIn w2 lo2 hi2 e2 s2 v2 n2 xs2) (hle : hi ≤ lo2) : ∀ g, v.ownBlock = some g → v2.ownBlock ≠ some g := fun g hg hg2 => by
  have a := h.2 g hg
  have b := (own_lt2 h2.1 g hg2).1
  omega
theorem ownsRow_lo {w : World} {lo lo' e s n : Nat} {v : Value} {xs : List Value} (h : w.ownsRow lo e s v n xs) (hle : lo' ≤ lo) : w.ownsRow lo' e s v n xs := ⟨h.1, h.2.imp id fun ⟨g, cap, cur, a, b, r⟩ => ⟨g, cap, cur, a, Nat.le_trans hle b, r⟩⟩
theorem OwnS.ys {w0 : World} {bx : Nat} {h ol c u t ot : Int} {vW vR vK vI vC : Value} {nW nR nK nI nC : Nat} {xW xR xK xI xC : List Value} {w : World} (hR : nR ≤ 300000) (S : OwnS 55 w0 bx h ol c vW u t ot vR vK vI vC [(50, 1, vW, nW, xW), (50, 1, vR, nR, xR), (50, 1, vK, nK, xK), (64, 2, vI, nI, xI), (4, 1, vC, nC, xC)] w) : YS w0 bx vW vR vK vI vC nW nC w := by
  obtain ⟨h1, h2, h3, t1, q1, r1, t2, q2, r2, t3, q3, r3, t4, q4, r4, t5, q5, r5, _⟩ := S
  exact ⟨h1, h2, ⟨h, ol, c, u, t, ot, h3⟩, ⟨xW, r1.1⟩, ⟨xC, ownsRow_lo r5.1 (by omega)⟩, ⟨nR, xR, hR, ownsRow_lo r2.1 (by omega)⟩, rowIn_ne r1 r5 (by omega), rowIn_ne r1 r2 (by omega), fun g hg hg2 => rowIn_ne r2 r5 (by omega) g hg2 hg⟩
theorem OwnS.repP {w0 : World} {bx : Nat} {m : MD} {vW vR vK vI vC : Value} {w : World} (S : OwnS 55 w0 bx m.half m.old m.card vW m.used m.top m.oldTop vR vK vI vC [(50, 1, vW, m.W.length, wordsV m.W), (50, 1, vR, m.R.length, wordsV m.R), (50, 1, vK, m.K.length, wordsV m.K), (64, 2, vI, m.I.length, idsV m.I), (4, 1, vC, m.C.length, boolsV m.C)] w) : RepP bx m w := by
  obtain ⟨h1, h2, h3, t1, q1, r1, t2, q2, r2, t3, q3, r3, t4, q4, r4, t5, q5, r5, _⟩ := S
  exact ⟨vW, vR, vK, vI, vC, lt_of_heap h3, OB.mem h3 |>.1, row0_own r1.1, rowV_own r2.1, rowV_own r3.1, rowV_own r4.1, row0_own r5.1⟩
theorem zero_min0 (n : Nat) : Nat.min 0 n = 0 := Nat.zero_min n
theorem infoU64s : (Tryz.prog.info? 50).map (·.size) = some 1 := by kernel_rfl
set_option maxHeartbeats 8000000 in
set_option maxRecDepth 100000 in
theorem alloc_safe (a : Nat → Addr) (w0 w : World) (bx : Nat) (m : MD) (kd : Int) (vW vR vK vI vC : Value) (h64 : MD64 m) (bR : m.R.length ≤ 300000) (bK : m.K.length ≤ 300000) (bI : m.I.length ≤ 300000) (E : MErr a w) (R : RepP bx m w) (Y : YS w0 bx vW vR vK vI vC m.W.length m.C.length w) (M : MemAt bx m.half m.old m.card vW m.used m.top m.oldTop vR vK vI vC w) :
    Calls Tryz.prog 22 #[.pointer (some ⟨bx, 0, none⟩), .int .i64 kd, .slice none 0 0] w fun ev w' => (∃ r e, ev = .returned (.tuple #[r, e])) ∧ YS w0 bx vW vR vK vI vC m.W.length m.C.length w' := by
  have HY := toHid Y
  have HM := toHid M
  have HE := toHid E
  have hbx := lt_of_cell M.c0
  have ks := survey_any a bx m h64 bR bK bI w E R
  clear Y M E
  go_enter Tryz.func22, Tryz.ntmps22
  go_wp2_with fail
  refine ks.mono ?_
  rintro ev w1 ⟨hb1, ⟨vs, bh, hsh, _, rfl, hmk, _⟩ | ⟨vs, _, _, rfl⟩ | ⟨_, rfl⟩⟩
  · clear ks hmk
    have hfit := hsh.1
    have hnum := hfit.nums
    unfold numsOK at hnum
    have hu0 := hfit.u0
    have hu1 := hfit.u1
    have ht0 := hfit.t0
    have ht1 := hfit.t1
    have hwl := hfit.w
    clear hfit hsh
    have hb1a : Below w.heap.size w (w1.alloc (.cells #[.int .i64 kd, .int .i64 0, .int .i64 0, .int .i64 0] 92)) := hb1.alloc hb1.size _
    by_cases hkd : 0 ≤ kd ∧ kd ≤ 255
    · have ko := ofHead_ok kd 0 0 0 hkd.1 hkd.2 (by omega) (by omega) (by omega) (by omega) (by omega) (by omega) (w1.alloc (.cells #[.int .i64 kd, .int .i64 0, .int .i64 0, .int .i64 0] 92))
      generalize (0 * 65536 + 0 * 16384 + 0 * 1024 + kd * 4 + 3 : Int) = hw at ko
      go_wp2_with fail
      refine ko.mono ?_
      rintro ev w2 ⟨rfl, hb2⟩
      have hid := (hb2.block w1.heap.size (by simp)).trans (heap_alloc_new w1 _)
      have hb3 := hb1a.trans (hb2.mono hb1a.size)
      clear ko hb1a hb2
      have hz1 := hb1.size
      obtain ⟨r0, r1, r2, r3, _⟩ := head_block hid
      have lo := lt_of_heap hid
      have M2 := HM.out.below hb3 hbx
      have HM2 := toHid M2
      have c0 := M2.c0
      have c5 := M2.c5
      have HB3 := toHid hb3
      clear M2 hid
      have HQ : Hid (∀ W, Below w2.heap.size w2 W → W.cell? ⟨w1.heap.size, 0, none⟩ = some (.int .i64 kd) ∧ W.cell? ⟨w1.heap.size, 1, none⟩ = some (.int .i64 0) ∧ W.cell? ⟨w1.heap.size, 2, none⟩ = some (.int .i64 0) ∧ W.cell? ⟨w1.heap.size, 3, none⟩ = some (.int .i64 0) ∧ W.cell? ⟨bx, 0, none⟩ = some (.int .i64 m.half) ∧ W.cell? ⟨bx, 5, none⟩ = some (.int .i64 m.top)) := fun W hW => ⟨(hW.cell (p := ⟨w1.heap.size, 0, none⟩) lo).trans r0, (hW.cell (p := ⟨w1.heap.size, 1, none⟩) lo).trans r1, (hW.cell (p := ⟨w1.heap.size, 2, none⟩) lo).trans r2, (hW.cell (p := ⟨w1.heap.size, 3, none⟩) lo).trans r3, (hW.cell (p := ⟨bx, 0, none⟩) (lt_of_cell c0)).trans c0, (hW.cell (p := ⟨bx, 5, none⟩) (lt_of_cell c5)).trans c5⟩
      have kw : Hid (∀ w, Calls Tryz.prog 49 #[.agg #[.int .i64 kd, .int .i64 0, .int .i64 0, .int .i64 0]] w fun ev w' => ev = .returned (.int .i64 1) ∧ Below w.heap.size w w') := fun w => words_any kd 0 0 0 (by omega) (by omega) w
      have eh : IntKind.i64.wrap (m.half - m.top) = m.half - m.top := wrapI _ (by omega) (by omega)
      have kr := raw_any kd hkd.1 w2
      by_cases hr : kd < 8
      · rw [decide_eq_true hr] at kr
        go_wp2_with fail
        refine kr.mono ?_
        rintro ev w3 ⟨rfl, hq⟩
        rw [hq]
        clear hq kr w3
        go_upto_region 10 with fail
        by_cases hfull : m.half - m.top < 1
        · go_region_held3 (fun W => W.cell? ⟨w1.heap.size, 0, none⟩ = some (.int .i64 kd) ∧ W.cell? ⟨w1.heap.size, 1, none⟩ = some (.int .i64 0) ∧ W.cell? ⟨w1.heap.size, 2, none⟩ = some (.int .i64 0) ∧ W.cell? ⟨w1.heap.size, 3, none⟩ = some (.int .i64 0) ∧ W.cell? ⟨bx, 0, none⟩ = some (.int .i64 m.half) ∧ W.cell? ⟨bx, 5, none⟩ = some (.int .i64 m.top)) (first | go_keep | with_reducible exact HQ.out _ hb5) ((go_at_call 49; refine (kw.out _).mono ?_; rintro ev w4 ⟨rfl, hb4⟩; have hb5 : Below w2.heap.size w2 w4 := ((Below.refl _ _).drew).trans (hb4.mono (by simp))))
          all_goals have hb6 := HB3.out.trans (hb5.mono HB3.out.size)
          all_goals have k5 := (HE.out.below hb6).c5
          all_goals go_wp2_with fail
          all_goals go_quiet (fail)
          all_goals go_wp2
          all_goals go_ret2
          all_goals exact ⟨⟨_, _, rfl⟩, HY.out.keep (below_drewN hb6)⟩
        · go_region_held3 (fun W => W.cell? ⟨w1.heap.size, 0, none⟩ = some (.int .i64 kd) ∧ W.cell? ⟨w1.heap.size, 1, none⟩ = some (.int .i64 0) ∧ W.cell? ⟨w1.heap.size, 2, none⟩ = some (.int .i64 0) ∧ W.cell? ⟨w1.heap.size, 3, none⟩ = some (.int .i64 0) ∧ W.cell? ⟨bx, 0, none⟩ = some (.int .i64 m.half) ∧ W.cell? ⟨bx, 5, none⟩ = some (.int .i64 m.top)) (first | go_keep | with_reducible exact HQ.out _ hb5) ((go_at_call 49; refine (kw.out _).mono ?_; rintro ev w4 ⟨rfl, hb4⟩; have hb5 : Below w2.heap.size w2 w4 := ((Below.refl _ _).drew).trans (hb4.mono (by simp))))
          all_goals have hb6 := HB3.out.trans (hb5.mono HB3.out.size)
          go_upto_region 12 with fail
          obtain ⟨z0, z1, z2, z3, _, z5⟩ := HQ.out _ hb5
          have hroom : m.top + 1 ≤ m.half := by omega
          obtain ⟨n0, hn0⟩ : ∃ n0 : Nat, (n0 : Int) = m.used * m.half := ⟨(m.used * m.half).toNat, by have : 0 ≤ m.used * m.half := Int.mul_nonneg hu0 (by omega); omega⟩
          have hnb : (n0 : Int) ≤ m.half := by
            obtain e | e : m.used = 0 ∨ m.used = 1 := by omega
            · rw [e, Int.zero_mul] at hn0; omega
            · rw [e, Int.one_mul] at hn0; omega
          obtain ⟨ax, hax⟩ : ∃ ax : Nat, (ax : Int) = (n0 : Int) + m.top := ⟨((n0 : Int) + m.top).toNat, by omega⟩
          have ew : IntKind.i64.wrap ((n0 : Int) + m.top) = (ax : Int) := by rw [wrapI _ (by omega) (by omega)]; omega
          have hxl : ax + 1 < m.W.length := by omega
          have hxb : ax ≤ 300000 := by omega
          have M4 := HM.out.below hb6 hbx
          have Y4 := HY.out.keep hb6
          have kn : Hid (∀ q, Calls Tryz.prog 50 #[.pointer (some ⟨bx, 0, none⟩)] (w4.drewN q) fun ev w' => ev = .returned (.int .i64 (n0 : Int)) ∧ ∃ n, w' = (w4.drewN q).drewN n) := fun q => by
            have k := nursery_any bx m.half m.used (by omega) (by omega) hu0 hu1 (w4.drewN q) M4.c0 M4.c4
            rw [← hn0] at k
            exact k
          have HY4 := toHid Y4
          have HM4 := toHid M4
          have et : IntKind.i64.wrap (m.top + 1) = m.top + 1 := wrapI _ (by omega) (by omega)
          clear hn0 hax M4 Y4 hnum hu0 hu1 hwl hnb
          go_quiet ((go_at_call 50; exact Calls.quiet_of (kn.out _)))
          obtain ⟨w5, hw5⟩ : ∃ w5, w5 = w4.drewN nq := ⟨_, rfl⟩
          rw [← hw5]
          have hb7 : Below w4.heap.size w4 w5 := by rw [hw5]; exact below_drewN (Below.refl _ _)
          have Y5 := HY4.out.keep hb7
          have M5 := HM4.out.below hb7 (Nat.lt_of_lt_of_le hbx hb6.size)
          clear hw5
          have lo4 := lt_of_cell z0
          have y0 := (hb7.cell (p := ⟨w1.heap.size, 0, none⟩) lo4).trans z0
          have y1 := (hb7.cell (p := ⟨w1.heap.size, 1, none⟩) lo4).trans z1
          have y2 := (hb7.cell (p := ⟨w1.heap.size, 2, none⟩) lo4).trans z2
          have y3 := (hb7.cell (p := ⟨w1.heap.size, 3, none⟩) lo4).trans z3
          obtain ⟨xW, hoW⟩ := HY.out.wr
          obtain ⟨_, hW⟩ | ⟨g, cap, cur, rfl, hgb, hg, hcp, _, hcs, _⟩ := hoW.2
          · exfalso; omega
          have hgl := lt_of_heap hg
          have hg5 := ((hb6.trans (hb7.mono hb6.size)).block g hgl).trans hg
          obtain ⟨cv, hcv⟩ : ∃ cv, cur[ax]? = some cv := ⟨_, Array.getElem?_eq_getElem (by omega)⟩
          have v0 := (cell_of_row _ _ ax _ _ _ hg5).trans hcv
          have vf : w5.frozen? ⟨g, ax, none⟩ = false := by simp [World.frozen?, hg5]
          have d3 := M5.c3
          have d5 := M5.c5
          obtain ⟨_, _, _, _, _, _, hob⟩ := Y5.ob
          have df : w5.frozen? ⟨bx, 5, none⟩ = false := (OB.mem hob).2 5
          have ng1 : g ≠ bx := by omega
          have ng2 : g ≠ w1.heap.size := by omega
          have ng1' : bx ≠ g := by omega
          have ng2' : w1.heap.size ≠ g := by omega
          have nb2 : bx ≠ w1.heap.size := by omega
          have nb2' : w1.heap.size ≠ bx := by omega
          have hc1 : ¬ cap = ax + 1 := by omega
          have hc2 : ¬ ax + 1 = cap := by omega
          have hc3 : ¬ cap - (ax + 1) = 0 := by omega
          have s0 : (0 : Int) ≤ (ax : Int) := by omega
          have s1 : (ax : Int) < (m.W.length : Int) := by omega
          have s2 : (0 : Int) ≤ (ax : Int) + 1 := by omega
          have s3 : (ax : Int) + 1 ≤ (m.W.length : Int) := by omega
          have HY5 := toHid Y5
          have lb5 := lt_of_cell d5
          have lg5 := lt_of_heap hg5
          have lo5 := lt_of_cell y0
          clear hob Y5 M5 hcv hg5 hg hoW z0 z1 z2 z3 z5 kn
          have hcn : ∀ (w : World) (d : Option Addr) (dl dc : Nat), (Builtin.copy_ #[26, 26] 3 #[.slice d dl dc, .slice none 0 0]).run Tryz.prog w = .ok (.int .i64 0) w := fun w d dl dc => run_copy_none w _ _ _ 50 d none dl dc 0 0 Tryz.underlying26 infoU64s (zero_min0 _)
          go_wp2_with fail
          obtain ⟨w6, hw6⟩ : ∃ w6, w6 = w5.setCell ⟨g, ax, none⟩ (.int .u64 hw) := ⟨_, rfl⟩
          rw [← hw6]
          have Y6 : YS w0 bx (.slice (some ⟨g, 0, none⟩) m.W.length cap) vR vK vI vC m.W.length m.C.length w6 := by rw [hw6]; exact HY5.out.setW
          have fb : ∀ k, k ≠ g → w6.heap[k]? = w5.heap[k]? := fun k hk => by rw [hw6]; exact heap_set _ _ _ _ _ hk
          have u0 := (World.cell?_of_block (a := ⟨w1.heap.size, 0, none⟩) (fb _ ng2')).trans y0
          have u1 := (World.cell?_of_block (a := ⟨w1.heap.size, 1, none⟩) (fb _ ng2')).trans y1
          have u2 := (World.cell?_of_block (a := ⟨w1.heap.size, 2, none⟩) (fb _ ng2')).trans y2
          have u3 := (World.cell?_of_block (a := ⟨w1.heap.size, 3, none⟩) (fb _ ng2')).trans y3
          have u5 := (World.cell?_of_block (a := ⟨bx, 5, none⟩) (fb _ ng1')).trans d5
          have uf := (World.frozen?_of_block (a := ⟨bx, 5, none⟩) (fb _ ng1')).trans df
          have lb6 := lt_of_cell u5
          have lo6 := lt_of_cell u0
          have HY6 := toHid Y6
          clear hw6 fb Y6 y0 y1 y2 y3 d5 df v0 vf d3 hcn lb5 lg5 lo5
          go_region_with ((go_at_call 49; refine (kw.out _).mono ?_; rintro ev w7 ⟨rfl, hb8⟩; have hb9 : Below w6.heap.size w6 w7 := ((Below.refl _ _).drew).trans (hb8.mono (by simp)); have t5 := (hb9.cell (p := ⟨bx, 5, none⟩) lb6).trans u5; have tf := (hb9.frozen (p := ⟨bx, 5, none⟩) lb6).trans uf))
          all_goals go_wp2_with fail
          all_goals refine (ofAddr_ok (ax : Int) (by omega) (by omega) _).mono ?_
          all_goals rintro ev w8 ⟨rfl, hb10⟩
          all_goals go_wp2_with fail
          all_goals go_ret2
          all_goals exact ⟨⟨_, _, rfl⟩, ((HY6.out.keep hb9).setT _).keep hb10⟩
      · rw [decide_eq_false hr] at kr
        go_wp2_with fail
        refine kr.mono ?_
        rintro ev w3 ⟨rfl, hq⟩
        rw [hq]
        clear hq kr w3
        go_wp2_with fail
        refine (holdAll_none _ _).mono ?_
        rintro ev w3 ⟨rfl, hq⟩
        rw [hq]
        clear hq w3
        go_upto_region 10 with fail
        by_cases hfull : m.half - m.top < 1
        · go_region_held3 (fun W => W.cell? ⟨w1.heap.size, 0, none⟩ = some (.int .i64 kd) ∧ W.cell? ⟨w1.heap.size, 1, none⟩ = some (.int .i64 0) ∧ W.cell? ⟨w1.heap.size, 2, none⟩ = some (.int .i64 0) ∧ W.cell? ⟨w1.heap.size, 3, none⟩ = some (.int .i64 0) ∧ W.cell? ⟨bx, 0, none⟩ = some (.int .i64 m.half) ∧ W.cell? ⟨bx, 5, none⟩ = some (.int .i64 m.top)) (first | go_keep | with_reducible exact HQ.out _ hb5) ((go_at_call 49; refine (kw.out _).mono ?_; rintro ev w4 ⟨rfl, hb4⟩; have hb5 : Below w2.heap.size w2 w4 := ((Below.refl _ _).drew).trans (hb4.mono (by simp))))
          all_goals have hb6 := HB3.out.trans (hb5.mono HB3.out.size)
          all_goals have k5 := (HE.out.below hb6).c5
          all_goals go_wp2_with fail
          all_goals go_quiet (fail)
          all_goals go_wp2
          all_goals go_ret2
          all_goals exact ⟨⟨_, _, rfl⟩, HY.out.keep (below_drewN hb6)⟩
        · go_region_held3 (fun W => W.cell? ⟨w1.heap.size, 0, none⟩ = some (.int .i64 kd) ∧ W.cell? ⟨w1.heap.size, 1, none⟩ = some (.int .i64 0) ∧ W.cell? ⟨w1.heap.size, 2, none⟩ = some (.int .i64 0) ∧ W.cell? ⟨w1.heap.size, 3, none⟩ = some (.int .i64 0) ∧ W.cell? ⟨bx, 0, none⟩ = some (.int .i64 m.half) ∧ W.cell? ⟨bx, 5, none⟩ = some (.int .i64 m.top)) (first | go_keep | with_reducible exact HQ.out _ hb5) ((go_at_call 49; refine (kw.out _).mono ?_; rintro ev w4 ⟨rfl, hb4⟩; have hb5 : Below w2.heap.size w2 w4 := ((Below.refl _ _).drew).trans (hb4.mono (by simp))))
          all_goals have hb6 := HB3.out.trans (hb5.mono HB3.out.size)
          go_upto_region 12 with fail
          obtain ⟨z0, z1, z2, z3, _, z5⟩ := HQ.out _ hb5
          have hroom : m.top + 1 ≤ m.half := by omega
          obtain ⟨n0, hn0⟩ : ∃ n0 : Nat, (n0 : Int) = m.used * m.half := ⟨(m.used * m.half).toNat, by have : 0 ≤ m.used * m.half := Int.mul_nonneg hu0 (by omega); omega⟩
          have hnb : (n0 : Int) ≤ m.half := by
            obtain e | e : m.used = 0 ∨ m.used = 1 := by omega
            · rw [e, Int.zero_mul] at hn0; omega
            · rw [e, Int.one_mul] at hn0; omega
          obtain ⟨ax, hax⟩ : ∃ ax : Nat, (ax : Int) = (n0 : Int) + m.top := ⟨((n0 : Int) + m.top).toNat, by omega⟩
          have ew : IntKind.i64.wrap ((n0 : Int) + m.top) = (ax : Int) := by rw [wrapI _ (by omega) (by omega)]; omega
          have hxl : ax + 1 < m.W.length := by omega
          have hxb : ax ≤ 300000 := by omega
          have M4 := HM.out.below hb6 hbx
          have Y4 := HY.out.keep hb6
          have kn : Hid (∀ q, Calls Tryz.prog 50 #[.pointer (some ⟨bx, 0, none⟩)] (w4.drewN q) fun ev w' => ev = .returned (.int .i64 (n0 : Int)) ∧ ∃ n, w' = (w4.drewN q).drewN n) := fun q => by
            have k := nursery_any bx m.half m.used (by omega) (by omega) hu0 hu1 (w4.drewN q) M4.c0 M4.c4
            rw [← hn0] at k
            exact k
          have HY4 := toHid Y4
          have HM4 := toHid M4
          have et : IntKind.i64.wrap (m.top + 1) = m.top + 1 := wrapI _ (by omega) (by omega)
          clear hn0 hax M4 Y4 hnum hu0 hu1 hwl hnb
          go_quiet ((go_at_call 50; exact Calls.quiet_of (kn.out _)))
          obtain ⟨w5, hw5⟩ : ∃ w5, w5 = w4.drewN nq := ⟨_, rfl⟩
          rw [← hw5]
          have hb7 : Below w4.heap.size w4 w5 := by rw [hw5]; exact below_drewN (Below.refl _ _)
          have Y5 := HY4.out.keep hb7
          have M5 := HM4.out.below hb7 (Nat.lt_of_lt_of_le hbx hb6.size)
          clear hw5
          have lo4 := lt_of_cell z0
          have y0 := (hb7.cell (p := ⟨w1.heap.size, 0, none⟩) lo4).trans z0
          have y1 := (hb7.cell (p := ⟨w1.heap.size, 1, none⟩) lo4).trans z1
          have y2 := (hb7.cell (p := ⟨w1.heap.size, 2, none⟩) lo4).trans z2
          have y3 := (hb7.cell (p := ⟨w1.heap.size, 3, none⟩) lo4).trans z3
          obtain ⟨xW, hoW⟩ := HY.out.wr
          obtain ⟨_, hW⟩ | ⟨g, cap, cur, rfl, hgb, hg, hcp, _, hcs, _⟩ := hoW.2
          · exfalso; omega
          have hgl := lt_of_heap hg
          have hg5 := ((hb6.trans (hb7.mono hb6.size)).block g hgl).trans hg
          obtain ⟨cv, hcv⟩ : ∃ cv, cur[ax]? = some cv := ⟨_, Array.getElem?_eq_getElem (by omega)⟩
          have v0 := (cell_of_row _ _ ax _ _ _ hg5).trans hcv
          have vf : w5.frozen? ⟨g, ax, none⟩ = false := by simp [World.frozen?, hg5]
          have d3 := M5.c3
          have d5 := M5.c5
          obtain ⟨_, _, _, _, _, _, hob⟩ := Y5.ob
          have df : w5.frozen? ⟨bx, 5, none⟩ = false := (OB.mem hob).2 5
          have ng1 : g ≠ bx := by omega
          have ng2 : g ≠ w1.heap.size := by omega
          have ng1' : bx ≠ g := by omega
          have ng2' : w1.heap.size ≠ g := by omega
          have nb2 : bx ≠ w1.heap.size := by omega
          have nb2' : w1.heap.size ≠ bx := by omega
          have hc1 : ¬ cap = ax + 1 := by omega
          have hc2 : ¬ ax + 1 = cap := by omega
          have hc3 : ¬ cap - (ax + 1) = 0 := by omega
          have s0 : (0 : Int) ≤ (ax : Int) := by omega
          have s1 : (ax : Int) < (m.W.length : Int) := by omega
          have s2 : (0 : Int) ≤ (ax : Int) + 1 := by omega
          have s3 : (ax : Int) + 1 ≤ (m.W.length : Int) := by omega
          have HY5 := toHid Y5
          have lb5 := lt_of_cell d5
          have lg5 := lt_of_heap hg5
          have lo5 := lt_of_cell y0
          clear hob Y5 M5 hcv hg5 hg hoW z0 z1 z2 z3 z5 kn
          have hcn : ∀ (w : World) (d : Option Addr) (dl dc : Nat), (Builtin.copy_ #[26, 26] 3 #[.slice d dl dc, .slice none 0 0]).run Tryz.prog w = .ok (.int .i64 0) w := fun w d dl dc => run_copy_none w _ _ _ 50 d none dl dc 0 0 Tryz.underlying26 infoU64s (zero_min0 _)
          go_wp2_with fail
          obtain ⟨w6, hw6⟩ : ∃ w6, w6 = w5.setCell ⟨g, ax, none⟩ (.int .u64 hw) := ⟨_, rfl⟩
          rw [← hw6]
          have Y6 : YS w0 bx (.slice (some ⟨g, 0, none⟩) m.W.length cap) vR vK vI vC m.W.length m.C.length w6 := by rw [hw6]; exact HY5.out.setW
          have fb : ∀ k, k ≠ g → w6.heap[k]? = w5.heap[k]? := fun k hk => by rw [hw6]; exact heap_set _ _ _ _ _ hk
          have u0 := (World.cell?_of_block (a := ⟨w1.heap.size, 0, none⟩) (fb _ ng2')).trans y0
          have u1 := (World.cell?_of_block (a := ⟨w1.heap.size, 1, none⟩) (fb _ ng2')).trans y1
          have u2 := (World.cell?_of_block (a := ⟨w1.heap.size, 2, none⟩) (fb _ ng2')).trans y2
          have u3 := (World.cell?_of_block (a := ⟨w1.heap.size, 3, none⟩) (fb _ ng2')).trans y3
          have u5 := (World.cell?_of_block (a := ⟨bx, 5, none⟩) (fb _ ng1')).trans d5
          have uf := (World.frozen?_of_block (a := ⟨bx, 5, none⟩) (fb _ ng1')).trans df
          have lb6 := lt_of_cell u5
          have lo6 := lt_of_cell u0
          have HY6 := toHid Y6
          clear hw6 fb Y6 y0 y1 y2 y3 d5 df v0 vf d3 hcn lb5 lg5 lo5
          go_region_with ((go_at_call 49; refine (kw.out _).mono ?_; rintro ev w7 ⟨rfl, hb8⟩; have hb9 : Below w6.heap.size w6 w7 := ((Below.refl _ _).drew).trans (hb8.mono (by simp)); have t5 := (hb9.cell (p := ⟨bx, 5, none⟩) lb6).trans u5; have tf := (hb9.frozen (p := ⟨bx, 5, none⟩) lb6).trans uf))
          all_goals go_wp2_with fail
          all_goals refine (ofAddr_ok (ax : Int) (by omega) (by omega) _).mono ?_
          all_goals rintro ev w8 ⟨rfl, hb10⟩
          all_goals go_wp2_with fail
          all_goals go_ret2
          all_goals exact ⟨⟨_, _, rfl⟩, ((HY6.out.keep hb9).setT _).keep hb10⟩
    · have ko := ofHead_no a kd 0 0 0 (by omega) (w1.alloc (.cells #[.int .i64 kd, .int .i64 0, .int .i64 0, .int .i64 0] 92)) (HE.out.below hb1a).we
      unfold errV at ko
      clear hkd
      go_wp2_with fail
      refine ko.mono ?_
      rintro ev w2 ⟨rfl, hb2⟩
      have hb3 := hb1a.trans (hb2.mono hb1a.size)
      clear ko hb2
      go_wp2_with fail
      go_ret2
      exact ⟨⟨_, _, rfl⟩, HY.out.keep hb3⟩
  · clear ks
    unfold errV
    go_wp2_with fail
    go_ret2
    exact ⟨⟨_, _, rfl⟩, HY.out.keep hb1⟩
  · clear ks
    unfold errV
    go_wp2_with fail
    go_ret2
    exact ⟨⟨_, _, rfl⟩, HY.out.keep hb1⟩
end Go.Proofs.YtnenggkgfhgcnaaGreatDoor
