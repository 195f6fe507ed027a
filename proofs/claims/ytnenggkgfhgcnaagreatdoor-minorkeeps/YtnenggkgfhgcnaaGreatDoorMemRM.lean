/- Package mem: where a field lies (object, place), by contracts. -/
import Derived.Test.YtnenggkgfhgcnaaGreatDoorJoF
namespace Go.Proofs.YtnenggkgfhgcnaaGreatDoor
open Go.RowKit

/-- How a memory's words stand, and where objects begin. -/
structure Seen (p b bh nW cW : Nat) (F : Nat → Int) (hb : Nat → Bool) (w : World) : Prop where
  hn : nW ≤ 300000
  hc : nW ≤ cW
  hp : p < w.heap.size
  hbb : b < w.heap.size
  hbh : bh < w.heap.size
  heads : HeadsAt w bh nW hb
  c3 : w.cell? ⟨p, 3, none⟩ = some (.slice (some ⟨b, 0, none⟩) nW cW)
  words : ∀ i, i < nW → w.cell? ⟨b, i, none⟩ = some (.int .u64 (F i))
  range : ∀ i, i < nW → 0 ≤ F i ∧ F i < 18446744073709551616
  fine : ∀ f, f < nW → hb f = true → headB (F f) = true ∧ f + 1 + szN (F f) ≤ nW
theorem Seen.below {p b bh nW cW : Nat} {F : Nat → Int} {hb : Nat → Bool} {w w' : World} (S : Seen p b bh nW cW F hb w) (h : Below w.heap.size w w') : Seen p b bh nW cW F hb w' where
  hn := S.hn
  hc := S.hc
  hp := Nat.lt_of_lt_of_le S.hp h.size
  hbb := Nat.lt_of_lt_of_le S.hbb h.size
  hbh := Nat.lt_of_lt_of_le S.hbh h.size
  heads := S.heads.below h S.hbh
  c3 := (h.cell (p := ⟨p, 3, none⟩) S.hp).trans S.c3
  words i hi := (h.cell (p := ⟨b, i, none⟩) S.hbb).trans (S.words i hi)
  range := S.range
  fine := S.fine
theorem object_results (tmps : Array Value) (W : World) (b : Nat) (v0 v1 v2 v3 : Value) (h2 : tmps[7]?.getD undef = .pointer (some ⟨b, 0, none⟩)) (c0 : W.cell? ⟨b, 0, none⟩ = some v0) (c1 : W.cell? ⟨b, 1, none⟩ = some v1) (c2 : W.cell? ⟨b, 2, none⟩ = some v2) (c3 : W.cell? ⟨b, 3, none⟩ = some v3) :
    (results Tryz.f82 tmps).run Tryz.prog W = .ok (.tuple #[tmps[6]?.getD undef, .agg #[v0, v1, v2, v3], tmps[8]?.getD undef]) W := by
  simp [results, Tryz.results82, go_sem, h2, c0, c1, c2, c3]
theorem set4_block {w : World} {b : Nat} {u0 u1 u2 u3 : Value} (h : w.heap[b]? = some (.cells #[u0, u1, u2, u3] 92)) (v0 v1 v2 v3 : Value) : (set4 w b v0 v1 v2 v3).heap[b]? = some (.cells #[v0, v1, v2, v3] 92) := by
  unfold set4
  exact (heap_set_same ((heap_set_same ((heap_set_same ((heap_set_same h).trans rfl)).trans rfl)).trans rfl)).trans rfl
set_option maxHeartbeats 2000000 in
theorem object_ok (p b bh nW cW f : Nat) (F : Nat → Int) (hb : Nat → Bool) (hf : f < nW) (hbf : hb f = true) (w : World) (S : Seen p b bh nW cW F hb w) :
    Calls Tryz.prog 82 #[.pointer (some ⟨p, 0, none⟩), .slice (some ⟨bh, 0, none⟩) nW nW, .int .u64 (((f : Int) + 1) * 4)] w fun ev w' => ev = .returned (.tuple #[.int .i64 (f : Int), headV (F f), .bool true]) ∧ Below w.heap.size w w' := by
  have hn := S.hn
  have ht := toAddr_ok (((f : Int) + 1) * 4) (by omega) (by omega) (by omega) (w.alloc (.cells #[.int .i64 0, .int .i64 0, .int .i64 0, .int .i64 0] 92))
  have hfx : ((f : Int) + 1) * 4 / 4 - 1 = (f : Int) := by omega
  rw [hfx] at ht
  have hh := (S.fine f hf hbf).1
  unfold headB at hh
  have hh' := of_decide_eq_true hh
  have hr := S.range f hf
  have hI : (f : Int) < (nW : Int) := by omega
  have hI0 : (0 : Int) ≤ (f : Int) := by omega
  have HS := toHid S
  obtain ⟨x, hx⟩ : ∃ x, x = ((f : Int) + 1) * 4 := ⟨_, rfl⟩
  rw [← hx] at ht ⊢
  have hba : Below w.heap.size w (w.alloc (.cells #[.int .i64 0, .int .i64 0, .int .i64 0, .int .i64 0] 92)) := (Below.refl _ _).alloc (Nat.le_refl _) _
  have hna := heap_alloc_new w (.cells #[.int .i64 0, .int .i64 0, .int .i64 0, .int .i64 0] 92)
  have kh : Hid (∀ w, Calls Tryz.prog 58 #[.int .u64 (F f)] w fun ev w' => ev = .returned (.tuple #[headV (F f), .nilIface]) ∧ Below w.heap.size w w') := fun w => toHead_ok (F f) hr.1 hr.2 hh'.1 hh'.2.1 hh'.2.2 w
  clear hfx hh S hx hh' hr
  unfold headV at kh ⊢
  generalize F f / 4 % 256 = kd at kh ⊢
  generalize F f / 1024 % 16 = ag at kh ⊢
  generalize F f / 16384 % 2 = mk at kh ⊢
  generalize F f / 65536 = sz at kh ⊢
  go_enter Tryz.func82, Tryz.ntmps82
  go_wp2_with fail
  generalize w.alloc (.cells #[.int .i64 0, .int .i64 0, .int .i64 0, .int .i64 0] 92) = wa at *
  obtain ⟨q, hq⟩ : ∃ q, q = w.heap.size := ⟨_, rfl⟩
  rw [← hq] at hna ⊢
  have HQL : Hid (w.heap.size ≤ q) := Nat.le_of_eq hq.symm
  clear hq
  refine ht.mono ?_
  rintro ev w1 ⟨rfl, hw1a⟩
  have hw1 := hba.trans (hw1a.mono hba.size)
  have hn1 := (hw1a.block q (lt_of_heap hna)).trans hna
  have HN1 := toHid hn1
  have S1 := HS.out.below hw1
  have kb := begins_any bh nW hb f w1 S1.heads
  rw [decide_eq_true hf, hbf] at kb
  have d3 := S1.c3
  have df := S1.words f hf
  clear ht S1
  go_wp2_with fail
  refine kb.mono ?_
  rintro ev w2 ⟨rfl, hq⟩
  rw [hq]
  clear hq w2 kb
  go_wp2_with fail
  refine (kh.out w1).mono ?_
  rintro ev w2 ⟨rfl, hw2⟩
  clear kh
  have hn2 := (hw2.block q (lt_of_heap HN1.out)).trans HN1.out
  obtain ⟨r0, r1, r2, r3, rf⟩ := head_block hn2
  have rf0 := rf 0
  have rf1 := rf 1
  have rf2 := rf 2
  have rf3 := rf 3
  have hn3 := set4_block hn2 (.int .i64 kd) (.int .i64 ag) (.int .i64 mk) (.int .i64 sz)
  have hw3 := set4_below (hw1.trans (hw2.mono hw1.size)) HQL.out (.int .i64 kd) (.int .i64 ag) (.int .i64 mk) (.int .i64 sz)
  unfold set4 at hn3 hw3
  clear hn2 rf
  go_upto_region 5 with fail
  generalize (((w2.setCell ⟨q, 0, none⟩ (.int .i64 kd)).setCell ⟨q, 1, none⟩ (.int .i64 ag)).setCell ⟨q, 2, none⟩ (.int .i64 mk)).setCell ⟨q, 3, none⟩ (.int .i64 sz) = w3 at *
  have HN3 := toHid hn3
  obtain ⟨s0, s1, s2, s3, sf⟩ := head_block hn3
  have sf0 := sf 0
  have sf1 := sf 1
  have sf2 := sf 2
  have sf3 := sf 3
  clear r0 r1 r2 r3 rf0 rf1 rf2 rf3 hn3 sf d3 df
  go_region
  all_goals go_wp2_with fail
  all_goals obtain ⟨t0, t1, t2, t3⟩ := set4_cells s0 s1 s2 s3 (.int .i64 kd) (.int .i64 ag) (.int .i64 mk) (.int .i64 sz)
  all_goals refine bodyPost_ret (object_results _ _ q _ _ _ _ rfl t0 t1 t2 t3) rfl ?_
  all_goals exact ⟨rfl, (set4_below hw3 HQL.out _ _ _ _).drew⟩
set_option maxHeartbeats 2000000 in
theorem object_no (a : Nat → Addr) (p b bh nW cW : Nat) (F : Nat → Int) (hb : Nat → Bool) (x : Int) (h0 : 0 ≤ x) (h1 : x < 18446744073709551616) (hx : ptrB nW hb x = false) (w : World) (E : WErr a w) (S : Seen p b bh nW cW F hb w) :
    Calls Tryz.prog 82 #[.pointer (some ⟨p, 0, none⟩), .slice (some ⟨bh, 0, none⟩) nW nW, .int .u64 x] w fun ev w' => ev = .returned (.tuple #[.int .i64 0, headV 0, .bool false]) ∧ Below w.heap.size w w' := by
  unfold headV
  have HS := toHid S
  have hba : Below w.heap.size w (w.alloc (.cells #[.int .i64 0, .int .i64 0, .int .i64 0, .int .i64 0] 92)) := (Below.refl _ _).alloc (Nat.le_refl _) _
  have hna := heap_alloc_new w (.cells #[.int .i64 0, .int .i64 0, .int .i64 0, .int .i64 0] 92)
  clear S
  by_cases hc : x % 4 = 0 ∧ 4 ≤ x ∧ x / 4 - 1 ≤ 1099511627776
  · have ht := toAddr_ok x hc.1 hc.2.1 hc.2.2 (w.alloc (.cells #[.int .i64 0, .int .i64 0, .int .i64 0, .int .i64 0] 92))
    obtain ⟨n, hnn⟩ : ∃ n : Nat, (n : Int) = x / 4 - 1 := ⟨(x / 4 - 1).toNat, by omega⟩
    have hno : (decide (n < nW) && hb n) = false := by
      unfold ptrB at hx
      rw [decide_eq_true (And.intro hc.1 hc.2.1), Bool.true_and, ← hnn] at hx
      exact hx
    rw [← hnn] at ht
    clear hnn hc hx
    go_enter Tryz.func82, Tryz.ntmps82
    go_wp2_with fail
    generalize w.alloc (.cells #[.int .i64 0, .int .i64 0, .int .i64 0, .int .i64 0] 92) = wa at *
    obtain ⟨q, hq⟩ : ∃ q, q = w.heap.size := ⟨_, rfl⟩
    rw [← hq] at hna ⊢
    have HQL : Hid (w.heap.size ≤ q) := Nat.le_of_eq hq.symm
    clear hq
    refine ht.mono ?_
    rintro ev w1 ⟨rfl, hw1a⟩
    have hw1 := hba.trans (hw1a.mono hba.size)
    have hn1 := (hw1a.block q (lt_of_heap hna)).trans hna
    obtain ⟨r0, r1, r2, r3, rf⟩ := head_block hn1
    have rf0 := rf 0
    have rf1 := rf 1
    have rf2 := rf 2
    have rf3 := rf 3
    clear rf hn1 hna
    have kb := begins_any bh nW hb n w1 (HS.out.below hw1).heads
    rw [hno] at kb
    clear ht hno
    go_wp2_with fail
    refine kb.mono ?_
    rintro ev w2 ⟨rfl, hq⟩
    rw [hq]
    clear hq w2 kb
    go_wp2_with fail
    obtain ⟨t0, t1, t2, t3⟩ := set4_cells r0 r1 r2 r3 (.int .i64 0) (.int .i64 0) (.int .i64 0) (.int .i64 0)
    refine bodyPost_ret (object_results _ _ q _ _ _ _ rfl t0 t1 t2 t3) rfl ?_
    exact ⟨rfl, set4_below hw1 HQL.out _ _ _ _⟩
  · have ht := toAddr_no a x h0 h1 hc (w.alloc (.cells #[.int .i64 0, .int .i64 0, .int .i64 0, .int .i64 0] 92)) (E.below hba)
    unfold errV at ht
    clear hc hx
    go_enter Tryz.func82, Tryz.ntmps82
    go_wp2_with fail
    generalize w.alloc (.cells #[.int .i64 0, .int .i64 0, .int .i64 0, .int .i64 0] 92) = wa at *
    obtain ⟨q, hq⟩ : ∃ q, q = w.heap.size := ⟨_, rfl⟩
    rw [← hq] at hna ⊢
    have HQL : Hid (w.heap.size ≤ q) := Nat.le_of_eq hq.symm
    clear hq
    refine ht.mono ?_
    rintro ev w1 ⟨rfl, hw1a⟩
    have hw1 := hba.trans (hw1a.mono hba.size)
    have hn1 := (hw1a.block q (lt_of_heap hna)).trans hna
    obtain ⟨r0, r1, r2, r3, rf⟩ := head_block hn1
    have rf0 := rf 0
    have rf1 := rf 1
    have rf2 := rf 2
    have rf3 := rf 3
    clear rf hn1 hna
    clear ht
    go_wp2_with fail
    obtain ⟨t0, t1, t2, t3⟩ := set4_cells r0 r1 r2 r3 (.int .i64 0) (.int .i64 0) (.int .i64 0) (.int .i64 0)
    refine bodyPost_ret (object_results _ _ q _ _ _ _ rfl t0 t1 t2 t3) rfl ?_
    exact ⟨rfl, set4_below hw1 HQL.out _ _ _ _⟩
end Go.Proofs.YtnenggkgfhgcnaaGreatDoor
