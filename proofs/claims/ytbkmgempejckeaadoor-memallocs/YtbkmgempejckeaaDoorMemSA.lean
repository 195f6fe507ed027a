/- Package mem: Alloc of every memory, exactly. -/
import Derived.Test.YtbkmgempejckeaaDoorMemRN
import Derived.Laws.CopyOwn
import Derived.Test.YtbkmgempejckeaaDoorMemX
namespace Go.Proofs.YtbkmgempejckeaaDoor
open Go.RowKit

/-- All blocks but one are as they were. -/
structure Apart (g : Nat) (w w' : World) : Prop where
  os : w'.os = w.os
  tape : w'.tape = w.tape
  output : w'.output = w.output
  size : w'.heap.size = w.heap.size
  block : ∀ k, k ≠ g → w'.heap[k]? = w.heap[k]?
theorem Apart.below {g B : Nat} {w0 w w' : World} (h : Apart g w w') (hb : Below B w0 w) (hg : B ≤ g) : Below B w0 w' := ⟨h.os.trans hb.os, h.tape.trans hb.tape, h.output.trans hb.output, by rw [h.size]; exact hb.size, fun k hk => (h.block k (by omega)).trans (hb.block k hk)⟩
theorem wpList_copy_apart {P : Program} {w : World} {ops : Array Oper} {rest : List Oper} {o : Oper} {a : Act} {Q : Exit → Act → World → Prop} (hgd : o.guard = none) (d s : Operand) (dT sT : TypeId)
    (ho : o.op = .call { callee := .builtin .copy, args := #[d, s], argTypes := #[dT, sT] }) (elem : TypeId) (hu : P.underlying dT = some (.slice elem)) (hsz : (P.info? elem).map (·.size) = some 1)
    (dp sp : Option Addr) (dLen dCap sLen sCap : Nat) (hd : a.eval d = .slice dp dLen dCap) (hs : a.eval s = .slice sp sLen sCap)
    (g off : Nat) (cur : List Value) (t : TypeId) (hg : w.heap[g]? = some (.cells cur.toArray t (0, 0))) (cs : List Value) (hn : cs.length = Nat.min sLen dLen)
    (hpos : 0 < cs.length → dp = some ⟨g, off, none⟩ ∧ ∃ ad, sp = some ad ∧ ∀ j v, cs[j]? = some v → w.cell? (ad.add j) = some v)
    (hfit : off + cs.length ≤ cur.length) (h1 : ∀ v ∈ cs, v.oneCell' = true)
    (h : ∀ w', Hid (w'.heap[g]? = some (.cells (splice cur off cs).toArray t (0, 0))) → Hid (Apart g w w') → wpList P ops Q rest (a.put o.dst (goInt cs.length)) w') :
    wpList P ops Q (o :: rest) a w := by
  by_cases h0 : cs.length = 0
  · obtain rfl : cs = [] := List.eq_nil_of_length_eq_zero h0
    refine wpList_copy_nothing hgd d s dT sT ho elem hu hsz dp sp dLen dCap sLen sCap hd hs (by simpa using hn.symm) ?_
    exact h w (show _ = _ by simpa [splice] using hg) ⟨rfl, rfl, rfl, rfl, fun _ _ => rfl⟩
  · obtain ⟨rfl, ad, rfl, hsrc⟩ := hpos (by omega)
    refine wpList_copy_own hgd d s dT sT ho elem hu hsz g off dLen dCap ad sLen sCap hd hs cur.toArray t hg cs hn hsrc (by simpa using hfit) h1 ?_
    exact h _ (show _ = _ by simpa [splice] using setRow_heap w g _ _ t _ hg) ⟨rfl, rfl, rfl, by simp [World.setRow], fun k hk => setRow_other w g k _ hk⟩
/-- Words are laid over a memory's words. -/
def MD.cop (m : MD) (off : Nat) (fs : List Int) : MD := { m with W := splice m.W off fs }
theorem splice_take {α : Type} (L cs : List α) (off n : Nat) (h : off + cs.length ≤ n) : (splice L off cs).take n = splice (L.take n) off cs := by
  unfold splice
  rw [List.take_append, List.take_append, List.take_take, List.take_take, List.drop_take, List.length_take]
  rw [Nat.min_eq_left (by omega : off ≤ n), Nat.min_eq_right (by omega : off ≤ n)]
  by_cases hl : off ≤ L.length
  · rw [Nat.min_eq_left hl, List.take_of_length_le (l := cs) (by omega), Nat.sub_sub]
  · have e1 : L.drop (off + cs.length) = [] := List.drop_eq_nil_of_le (by omega)
    rw [e1, List.take_nil, List.take_nil, List.append_nil]
    have e2 : min off L.length = L.length := by omega
    rw [e2, List.take_of_length_le (l := cs) (by omega), List.append_nil]
theorem splice_map {α β : Type} (f : α → β) (L cs : List α) (off : Nat) : (splice L off cs).map f = splice (L.map f) off (cs.map f) := by
  unfold splice
  rw [List.map_append, List.map_append, List.map_take, List.map_drop, List.length_map]
theorem OwnQ.cop {B bx g cap n : Nat} {m : MD} {vR vK vI vC : Value} {w w' : World} (h : OwnQ B bx m (.slice (some ⟨g, 0, none⟩) n cap) vR vK vI vC w) (cur : Array Value) (hg : w.heap[g]? = some (.cells cur 40 (0, 0))) (off : Nat) (fs : List Int) (hf : off + fs.length ≤ m.W.length) (hg' : w'.heap[g]? = some (.cells (splice cur.toList off (wordsV fs)).toArray 40 (0, 0))) (ha : Apart g w w') : OwnQ B bx (m.cop off fs) (.slice (some ⟨g, 0, none⟩) n cap) vR vK vI vC w' := by
  obtain ⟨h0, hO, r1, r2, r3, r4, r5, d1, d2, d3⟩ := h
  obtain rfl : n = m.W.length := by
    rcases r1.2 with ⟨e, _⟩ | ⟨_, _, _, e, _⟩
    · cases e
    · cases e; rfl
  have hne : ∀ v ∈ [vR, vK, vI, vC], ∀ k, v.ownBlock = some k → w'.heap[k]? = w.heap[k]? := fun v hv k hk => ha.block k (fun e => d2 v hv g rfl (by rw [hk, e]))
  refine ⟨h0, (ha.block bx (fun e => d1 (.slice (some ⟨g, 0, none⟩) m.W.length cap) (by simp) (by rw [e]; rfl))).trans hO, ?_, ownsRow_far' r2 (hne vR (by simp)), ownsRow_far' r3 (hne vK (by simp)), ownsRow_far' r4 (hne vI (by simp)), ownsRow_far' r5 (hne vC (by simp)), d1, d2, d3⟩
  have hl : (splice m.W off fs).length = m.W.length := length_splice _ _ _ hf
  show w'.ownsRow B 40 1 _ (splice m.W off fs).length (wordsV (splice m.W off fs))
  rw [hl]
  obtain ⟨l1, hr⟩ := r1
  rcases hr with ⟨e, _⟩ | ⟨g', cap', cur', e1, hb, hg2, hc, hm, hs, ht⟩
  · cases e
  · cases e1
    rw [hg] at hg2
    cases hg2
    refine ⟨by rw [lenV, hl]; omega, .inr ⟨g, cap, _, rfl, hb, hg', hc, hm, ?_, ?_⟩⟩
    · have e1 : cur.toList.length = cap * 1 := by rw [Array.length_toList, hs]
      have e2 := lenV fs
      rw [List.size_toArray, length_splice _ _ _ (by omega), e1]
    · rw [splice_take _ _ _ _ (by rw [lenV]; omega), ht]
      unfold wordsV
      rw [← splice_map]
/-- Why Alloc does not. -/
def AllocErr (m : MD) (kd : Int) (fs : List Int) (k : Nat) : Prop := ((∀ vs, ¬ m.Shape vs) ∧ k = 2) ∨ ∃ vs, m.Shape vs ∧ ((m.cardsB = false ∧ k = 4) ∨ (m.cardsB = true ∧ ((¬ (0 ≤ kd ∧ kd ≤ 255) ∧ k = 1) ∨ (0 ≤ kd ∧ kd ≤ 255 ∧ ((8 ≤ kd ∧ fs.all (fieldB m.W.length (fun i => decide (i ∈ vs))) = false ∧ k = 2) ∨ ((kd < 8 ∨ fs.all (fieldB m.W.length (fun i => decide (i ∈ vs))) = true) ∧ m.half - m.top < 1 + (fs.length : Int) ∧ k = 5))))))
/-- What a memory is behind Alloc. -/
def MD.allocd (m : MD) (kd : Int) (fs : List Int) : MD := ((m.cop (m.n1 + 1) fs).setW m.n1 ((fs.length : Int) * 65536 + 0 * 16384 + 0 * 1024 + kd * 4 + 3)).setT (m.top + (1 + (fs.length : Int)))
/-- What Alloc answers. -/
def AllocPost (a : Nat → Addr) (w0 : World) (bx : Nat) (m : MD) (kd : Int) (fs : List Int) (w : World) (ev : Ending) (w' : World) : Prop :=
  (∃ k, AllocErr m kd fs k ∧ ev = .returned (.tuple #[.int .u64 0, errV a k]) ∧ Below w.heap.size w w') ∨
  (∃ vs, m.Shape vs ∧ m.cardsB = true ∧ 0 ≤ kd ∧ kd ≤ 255 ∧ (kd < 8 ∨ fs.all (fieldB m.W.length (fun i => decide (i ∈ vs))) = true) ∧ m.top + 1 + (fs.length : Int) ≤ m.half ∧ ev = .returned (.tuple #[.int .u64 (((m.n1 : Int) + 1) * 4), .nilIface]) ∧ OwnP w0.heap.size bx (m.allocd kd fs) w' ∧ Below w0.heap.size w0 w')
set_option maxHeartbeats 8000000 in
set_option maxRecDepth 100000 in
theorem alloc_any (a : Nat → Addr) (w0 : World) (bx : Nat) (m : MD) (h64 : MD64 m) (bR : m.R.length ≤ 300000) (bK : m.K.length ≤ 300000) (bI : m.I.length ≤ 300000) (kd : Int) (fs : List Int) (hfu : U64 fs) (hfl : fs.length ≤ 4096) (af : Option Addr) (cf : Nat) (w : World) (E : MErr a w0) (hb0 : Below w0.heap.size w0 w) (O : OwnP w0.heap.size bx m w) (RF : RowV w (.slice af fs.length cf) fs.length (wordsV fs)) :
    Calls Tryd.prog 16 #[.pointer (some ⟨bx, 0, none⟩), .int .i64 kd, .slice af fs.length cf] w (AllocPost a w0 bx m kd fs w) := by
  obtain ⟨vW, vR, vK, vI, vC, Q⟩ := O.named
  have HQ := toHid Q
  have HE := toHid E
  have HB0 := toHid hb0
  have HRF := toHid RF
  have HFU := toHid hfu
  have M := Q.mem
  have hbx := lt_of_cell M.c0
  have HM := toHid M
  have ks := survey_any a bx m h64 bR bK bI w (E.below hb0) O.repP
  obtain ⟨s, hs⟩ : ∃ s : Nat, s = fs.length := ⟨_, rfl⟩
  have HSL := toHid hs
  rw [← hs]
  have hs1 : s ≤ 4096 := by omega
  clear Q M E O hb0 RF hfu hs hfl
  go_enter Tryd.func16, Tryd.ntmps16
  go_wp2_with fail
  refine ks.mono ?_
  rintro ev w1 ⟨hb1, ⟨vs, bh, hsh, hcb, rfl, hmk, _⟩ | ⟨vs, hsh, hcb, rfl⟩ | ⟨hno, rfl⟩⟩
  · have hfit := hsh.1
    have hnum := hfit.nums
    unfold numsOK at hnum
    have hu0 := hfit.u0
    have hu1 := hfit.u1
    have ht0 := hfit.t0
    have ht1 := hfit.t1
    have hwl := hfit.w
    have HSH := toHid hsh
    have HCB := toHid hcb
    have HMK := toHid hmk
    clear hfit ks hsh hcb hmk
    have hb1a : Below w.heap.size w (w1.alloc (.cells #[.int .i64 kd, .int .i64 0, .int .i64 0, .int .i64 (s : Int)] 79)) := hb1.alloc hb1.size _
    have hba1 : Below w1.heap.size w1 (w1.alloc (.cells #[.int .i64 kd, .int .i64 0, .int .i64 0, .int .i64 (s : Int)] 79)) := (Below.refl _ _).alloc (Nat.le_refl _) _
    by_cases hkd : 0 ≤ kd ∧ kd ≤ 255
    · have ko := ofHead_ok kd 0 0 (s : Int) hkd.1 hkd.2 (by omega) (by omega) (by omega) (by omega) (by omega) (by omega) (w1.alloc (.cells #[.int .i64 kd, .int .i64 0, .int .i64 0, .int .i64 (s : Int)] 79))
      obtain ⟨hw, hhw⟩ : ∃ hw, hw = (s : Int) * 65536 + 0 * 16384 + 0 * 1024 + kd * 4 + 3 := ⟨_, rfl⟩
      rw [← hhw] at ko
      have HHW := toHid hhw
      have HKD := toHid hkd
      clear hhw
      go_wp2_with fail
      refine ko.mono ?_
      rintro ev w2 ⟨rfl, hb2⟩
      have hid := (hb2.block w1.heap.size (by simp)).trans (heap_alloc_new w1 _)
      have hb3 := hb1a.trans (hb2.mono hb1a.size)
      have hb12 : Below w1.heap.size w1 w2 := hba1.trans (hb2.mono hba1.size)
      clear ko hb1a hb2 hba1
      have hz1 := hb1.size
      obtain ⟨r0, r1, r2, r3, _⟩ := head_block hid
      have lo := lt_of_heap hid
      have M2 := HM.out.below hb3 hbx
      have c0 := M2.c0
      have c5 := M2.c5
      have HB3 := toHid hb3
      have HB12 := toHid hb12
      have H02 := toHid (HB0.out.trans (hb3.mono HB0.out.size))
      clear M2 hid hb12
      obtain ⟨q, hq⟩ : ∃ q, q = w1.heap.size := ⟨_, rfl⟩
      have HQ1 : Hid (w.heap.size ≤ q) := by show _ ≤ _; rw [hq]; exact hz1
      rw [← hq] at r0 r1 r2 r3 lo ⊢
      clear hq hz1 hb3
      have HF : Hid (∀ W, Below w2.heap.size w2 W → W.cell? ⟨q, 0, none⟩ = some (.int .i64 kd) ∧ W.cell? ⟨q, 1, none⟩ = some (.int .i64 0) ∧ W.cell? ⟨q, 2, none⟩ = some (.int .i64 0) ∧ W.cell? ⟨q, 3, none⟩ = some (.int .i64 (s : Int)) ∧ W.cell? ⟨bx, 0, none⟩ = some (.int .i64 m.half) ∧ W.cell? ⟨bx, 5, none⟩ = some (.int .i64 m.top)) := fun W hW => ⟨(hW.cell (p := ⟨q, 0, none⟩) lo).trans r0, (hW.cell (p := ⟨q, 1, none⟩) lo).trans r1, (hW.cell (p := ⟨q, 2, none⟩) lo).trans r2, (hW.cell (p := ⟨q, 3, none⟩) lo).trans r3, (hW.cell (p := ⟨bx, 0, none⟩) (lt_of_cell c0)).trans c0, (hW.cell (p := ⟨bx, 5, none⟩) (lt_of_cell c5)).trans c5⟩
      have kw : Hid (∀ w, Calls Tryd.prog 40 #[.agg #[.int .i64 kd, .int .i64 0, .int .i64 0, .int .i64 (s : Int)]] w fun ev w' => ev = .returned (.int .i64 (1 + (s : Int))) ∧ Below w.heap.size w w') := fun w => words_any kd 0 0 (s : Int) (by omega) (by omega) w
      have eh : IntKind.i64.wrap (m.half - m.top) = m.half - m.top := wrapI _ (by omega) (by omega)
      have kr := raw_any kd hkd.1 w2
      by_cases hr : kd < 8
      · rw [decide_eq_true hr] at kr
        have HOR : Hid (kd < 8 ∨ fs.all (fieldB m.W.length (fun i => decide (i ∈ vs))) = true) := .inl hr
        go_wp2_with fail
        refine kr.mono ?_
        rintro ev w3 ⟨rfl, hq⟩
        rw [hq]
        clear hq kr w3
        obtain ⟨w3, hw3⟩ : ∃ w3, w3 = w2 := ⟨_, rfl⟩
        have hb23 : Below w2.heap.size w2 w3 := by rw [hw3]; exact Below.refl _ _
        rw [← hw3]
        clear hw3
        have HF3 : Hid (∀ W, Below w3.heap.size w3 W → W.cell? ⟨q, 0, none⟩ = some (.int .i64 kd) ∧ W.cell? ⟨q, 1, none⟩ = some (.int .i64 0) ∧ W.cell? ⟨q, 2, none⟩ = some (.int .i64 0) ∧ W.cell? ⟨q, 3, none⟩ = some (.int .i64 (s : Int)) ∧ W.cell? ⟨bx, 0, none⟩ = some (.int .i64 m.half) ∧ W.cell? ⟨bx, 5, none⟩ = some (.int .i64 m.top)) := fun W hW => HF.out W (hb23.trans (hW.mono hb23.size))
        have H3 : Hid (Below w.heap.size w w3) := HB3.out.trans (hb23.mono HB3.out.size)
        have H03 : Hid (Below w0.heap.size w0 w3) := HB0.out.trans (H3.out.mono HB0.out.size)
        clear r0 r1 r2 r3 c0 c5 lo
        obtain ⟨r0, r1, r2, r3, c0, c5⟩ := HF3.out w3 (Below.refl _ _)
        go_upto_region 10 with fail
        by_cases hfull : m.half - m.top < 1 + (s : Int)
        · have HERR : Hid (AllocErr m kd fs 5) := .inr ⟨vs, HSH.out, .inr ⟨HCB.out, .inr ⟨HKD.out.1, HKD.out.2, .inr ⟨HOR.out, by rw [← HSL.out]; exact hfull, rfl⟩⟩⟩⟩
          go_region_held3 (fun W => W.cell? ⟨q, 0, none⟩ = some (.int .i64 kd) ∧ W.cell? ⟨q, 1, none⟩ = some (.int .i64 0) ∧ W.cell? ⟨q, 2, none⟩ = some (.int .i64 0) ∧ W.cell? ⟨q, 3, none⟩ = some (.int .i64 (s : Int)) ∧ W.cell? ⟨bx, 0, none⟩ = some (.int .i64 m.half) ∧ W.cell? ⟨bx, 5, none⟩ = some (.int .i64 m.top)) (first | go_keep | with_reducible exact HF3.out _ hb5) ((go_at_call 40; refine (kw.out _).mono ?_; rintro ev w4 ⟨rfl, hb4⟩; have hb5 : Below w3.heap.size w3 w4 := ((Below.refl _ _).drew).trans (hb4.mono (by simp))))
          all_goals have hb6 := H3.out.trans (hb5.mono H3.out.size)
          all_goals have k5 := (HE.out.below (HB0.out.trans (hb6.mono HB0.out.size))).c5
          all_goals go_wp2_with fail
          all_goals go_quiet (fail)
          all_goals go_wp2
          all_goals go_ret2
          all_goals exact .inl ⟨5, HERR.out, rfl, below_drewN hb6⟩
        · go_region_held3 (fun W => W.cell? ⟨q, 0, none⟩ = some (.int .i64 kd) ∧ W.cell? ⟨q, 1, none⟩ = some (.int .i64 0) ∧ W.cell? ⟨q, 2, none⟩ = some (.int .i64 0) ∧ W.cell? ⟨q, 3, none⟩ = some (.int .i64 (s : Int)) ∧ W.cell? ⟨bx, 0, none⟩ = some (.int .i64 m.half) ∧ W.cell? ⟨bx, 5, none⟩ = some (.int .i64 m.top)) (first | go_keep | with_reducible exact HF3.out _ hb5) ((go_at_call 40; refine (kw.out _).mono ?_; rintro ev w4 ⟨rfl, hb4⟩; have hb5 : Below w3.heap.size w3 w4 := ((Below.refl _ _).drew).trans (hb4.mono (by simp))))
          go_upto_region 12 with fail
          have hroom : m.top + 1 + (s : Int) ≤ m.half := by omega
          have H34 := H3.out.trans (hb5.mono H3.out.size)
          have H04 := H03.out.trans (hb5.mono H03.out.size)
          obtain ⟨z0, z1, z2, z3, _, z5⟩ := HF3.out w4 hb5
          have P := MD.parts HSH.out.1
          have hle := P.le HSH.out.1
          have hn0 := P.n0
          have hn1 := P.n1
          have hnb : (m.n0 : Int) ≤ m.half := by
            obtain e | e : m.used = 0 ∨ m.used = 1 := by omega
            · rw [e, Int.zero_mul] at hn0; omega
            · rw [e, Int.one_mul] at hn0; omega
          obtain ⟨n0, hn0'⟩ : ∃ n0 : Nat, n0 = m.n0 := ⟨_, rfl⟩
          obtain ⟨ax, hax⟩ : ∃ ax : Nat, ax = m.n1 := ⟨_, rfl⟩
          have HAX := toHid hax
          have hxs : ax + 1 + s < m.W.length := by omega
          have hxb : ax ≤ 300000 := by omega
          have hxl : m.W.length ≤ 300000 := HSH.out.len.2.1
          have ew : IntKind.i64.wrap ((n0 : Int) + m.top) = (ax : Int) := by rw [wrapI _ (by omega) (by omega)]; omega
          have M4 := HM.out.below H34 hbx
          have kn : Hid (∀ q, Calls Tryd.prog 41 #[.pointer (some ⟨bx, 0, none⟩)] (w4.drewN q) fun ev w' => ev = .returned (.int .i64 (n0 : Int)) ∧ ∃ n, w' = (w4.drewN q).drewN n) := fun q => by
            have k := nursery_any bx m.half m.used (by omega) (by omega) hu0 hu1 (w4.drewN q) M4.c0 M4.c4
            rw [← hn0, ← hn0'] at k
            exact k
          have HR4 := toHid H34
          have HR04 := toHid H04
          have et : IntKind.i64.wrap (m.top + (1 + (s : Int))) = m.top + (1 + (s : Int)) := wrapI _ (by omega) (by omega)
          clear hn0 hn1 hn0' hax M4 hnum hu0 hu1 hwl hnb hle P H34 H04
          go_quiet ((go_at_call 41; exact Calls.quiet_of (kn.out _)))
          obtain ⟨w5, hw5⟩ : ∃ w5, w5 = w4.drewN nq := ⟨_, rfl⟩
          rw [← hw5]
          have hb7 : Below w4.heap.size w4 w5 := by rw [hw5]; exact below_drewN (Below.refl _ _)
          clear hw5
          have hb05 := HR04.out.trans (hb7.mono HR04.out.size)
          have hbw5 := HR4.out.trans (hb7.mono HR4.out.size)
          have lo4 := lt_of_cell z0
          have y0 := (hb7.cell (p := ⟨q, 0, none⟩) lo4).trans z0
          have y1 := (hb7.cell (p := ⟨q, 1, none⟩) lo4).trans z1
          have y2 := (hb7.cell (p := ⟨q, 2, none⟩) lo4).trans z2
          have y3 := (hb7.cell (p := ⟨q, 3, none⟩) lo4).trans z3
          have Q5 := HQ.out.below hbw5
          obtain ⟨g, cap, rfl, hcap, hBg, hg5, hgx, _, hfz, _⟩ := Q5.rowW (by omega)
          obtain ⟨cur, hcur, hcl⟩ : ∃ cur : List Value, w5.heap[g]? = some (.cells cur.toArray 40 (0, 0)) ∧ cur.length = cap := by
            obtain ⟨_, _, r1, _⟩ := Q5
            rcases r1.2 with ⟨e, _⟩ | ⟨g', cap', cur', e1, _, hg2, _, _, hs2, _⟩
            · cases e
            · cases e1
              exact ⟨cur'.toList, hg2, by rw [Array.length_toList, hs2]; omega⟩
          have hgw : g < w.heap.size := by
            obtain ⟨g', cap', e1, _, _, h1, _⟩ := HQ.out.rowW (by omega)
            cases e1
            exact h1
          have d3 := Q5.mem.c3
          have HQ5 := toHid Q5
          have HCUR := toHid hcur
          have hRF := HRF.out.below hbw5
          have HRF5 := toHid hRF
          have HB05 := toHid hb05
          have lq5 := lt_of_cell y0
          have s2 : (0 : Int) ≤ (ax : Int) + 1 := by omega
          have s3 : (ax : Int) + 1 ≤ (m.W.length : Int) := by omega
          have ea : IntKind.i64.wrap ((ax : Int) + 1) = (ax : Int) + 1 := wrapI _ (by omega) (by omega)
          have hc1 : ¬ cap = ax + 1 := by omega
          have hc2 : ¬ ax + 1 = cap := by omega
          have hc3 : ¬ cap - (ax + 1) = 0 := by omega
          have hmin : (wordsV fs).length = Nat.min s (m.W.length - (ax + 1)) := by rw [lenV, ← HSL.out]; exact (Nat.min_eq_left (by omega)).symm
          have HMIN := toHid hmin
          have HPOS : Hid (0 < (wordsV fs).length → ∃ ad, af = some ad ∧ ∀ j v, (wordsV fs)[j]? = some v → w5.cell? (ad.add j) = some v) := fun h => by
            have hh : 0 < fs.length := by rw [lenV] at h; exact h
            obtain ⟨ad, e1, _, e3⟩ := (HRF5.out).src hh
            exact ⟨ad, e1, e3⟩
          clear hcur hRF hmin Q5 hfz z0 z1 z2 z3 z5 kn hb7 hb05 hbw5
          have hcl2 : (ax + 1) + (wordsV fs).length ≤ cur.length := by rw [lenV, ← HSL.out]; omega
          have HCL2 := toHid hcl2
          have hqg : q ≠ g := by have := HQ1.out; omega
          have HC6 : Hid (∀ w6, w6.heap[g]? = some (.cells (splice cur (ax + 1) (wordsV fs)).toArray 40 (0, 0)) → Apart g w5 w6 → OwnQ w0.heap.size bx (m.cop (ax + 1) fs) (.slice (some ⟨g, 0, none⟩) m.W.length cap) vR vK vI vC w6 ∧ w6.cell? ⟨bx, 3, none⟩ = some (.slice (some ⟨g, 0, none⟩) m.W.length cap) ∧ (∃ cx, w6.cell? ⟨g, ax, none⟩ = some cx) ∧ w6.frozen? ⟨g, ax, none⟩ = false ∧ w6.cell? ⟨q, 0, none⟩ = some (.int .i64 kd) ∧ w6.cell? ⟨q, 1, none⟩ = some (.int .i64 0) ∧ w6.cell? ⟨q, 2, none⟩ = some (.int .i64 0) ∧ w6.cell? ⟨q, 3, none⟩ = some (.int .i64 (s : Int))) := fun w6 hg6 ha6 => by
            have Q6 := HQ5.out.cop cur.toArray HCUR.out (ax + 1) fs (by rw [← HSL.out]; omega) hg6 ha6
            have hl : (m.cop (ax + 1) fs).W.length = m.W.length := length_splice _ _ _ (by rw [← HSL.out]; omega)
            obtain ⟨g', cap', e1, _, _, _, _, hw6, hf6, _⟩ := Q6.rowW (by rw [hl]; omega)
            rw [hl] at e1
            cases e1
            exact ⟨Q6, Q6.mem.c3, ⟨_, hw6 ax (by rw [hl]; omega)⟩, hf6 ax, (World.cell?_of_block (a := ⟨q, 0, none⟩) (ha6.block _ hqg)).trans y0, (World.cell?_of_block (a := ⟨q, 1, none⟩) (ha6.block _ hqg)).trans y1, (World.cell?_of_block (a := ⟨q, 2, none⟩) (ha6.block _ hqg)).trans y2, (World.cell?_of_block (a := ⟨q, 3, none⟩) (ha6.block _ hqg)).trans y3⟩
          have hxi : (ax : Int) < (m.W.length : Int) := by omega
          have hxi0 : (0 : Int) ≤ (ax : Int) := by omega
          clear hcl2
          go_wp2_with (refine wpList_copy_apart rfl _ _ _ _ rfl 40 Tryd.underlying32 infoU64s _ _ _ _ _ _ rfl rfl g (ax + 1) cur 40 HCUR.out (wordsV fs) HMIN.out (fun h => ⟨rfl, HPOS.out h⟩) HCL2.out (one_words fs) ?_; intro w6 hg6 ha6; obtain ⟨Q6, e3, ⟨cx, ex⟩, ef, x0, x1, x2, x3⟩ := HC6.out w6 hg6.out ha6.out; have HQ6 := toHid Q6; clear Q6 d3 y0 y1 y2 y3)
          obtain ⟨w7, hw7⟩ : ∃ w7, w7 = w6.setCell ⟨g, ax, none⟩ (.int .u64 hw) := ⟨_, rfl⟩
          rw [← hw7]
          have Q7 : OwnQ w0.heap.size bx ((m.cop (ax + 1) fs).setW ax hw) (.slice (some ⟨g, 0, none⟩) m.W.length cap) vR vK vI vC w7 := by rw [hw7]; exact HQ6.out.setW ax hw
          have H07 : Hid (Below w0.heap.size w0 w7) := by rw [hw7]; exact (ha6.out.below HB05.out hBg).setCell hBg _
          have fb : ∀ k, k ≠ g → w7.heap[k]? = w6.heap[k]? := fun k hk => by rw [hw7]; exact heap_set _ _ _ _ _ hk
          have u0 := (World.cell?_of_block (a := ⟨q, 0, none⟩) (fb _ hqg)).trans x0
          have u1 := (World.cell?_of_block (a := ⟨q, 1, none⟩) (fb _ hqg)).trans x1
          have u2 := (World.cell?_of_block (a := ⟨q, 2, none⟩) (fb _ hqg)).trans x2
          have u3 := (World.cell?_of_block (a := ⟨q, 3, none⟩) (fb _ hqg)).trans x3
          have u5 : w7.cell? ⟨bx, 5, none⟩ = some (.int .i64 m.top) := Q7.mem.c5
          have uf : w7.frozen? ⟨bx, 5, none⟩ = false := (OB.mem Q7.2.1).2 5
          have lb7 := lt_of_cell u5
          have HQ7 := toHid Q7
          have HAL : Hid (m.allocd kd fs = ((m.cop (ax + 1) fs).setW ax hw).setT (m.top + (1 + (s : Int)))) := by show _ = _; unfold MD.allocd; rw [HHW.out, HAX.out, HSL.out]
          have HBX : Hid (w0.heap.size ≤ bx) := HQ.out.1
          clear hw7 fb Q7 x0 x1 x2 x3 ex ef e3
          go_region_with ((go_at_call 40; refine (kw.out _).mono ?_; rintro ev w8 ⟨rfl, hb8⟩; have hb9 : Below w7.heap.size w7 w8 := ((Below.refl _ _).drew).trans (hb8.mono (by simp)); have t5 := (hb9.cell (p := ⟨bx, 5, none⟩) lb7).trans u5; have tf := (hb9.frozen (p := ⟨bx, 5, none⟩) lb7).trans uf))
          all_goals go_wp2_with fail
          all_goals refine (ofAddr_ok (ax : Int) (by omega) (by omega) _).mono ?_
          all_goals rintro ev w9 ⟨rfl, hb10⟩
          all_goals go_wp2_with fail
          all_goals go_ret2
          all_goals (
            have Q8 := (HQ7.out.below hb9).setT (m.top + (1 + (s : Int)))
            have hB8 : Below w0.heap.size w0 (w8.setCell ⟨bx, 5, none⟩ (.int .i64 (m.top + (1 + (s : Int))))) := (H07.out.trans (hb9.mono H07.out.size)).setCell HBX.out _
            refine .inr ⟨vs, HSH.out, HCB.out, HKD.out.1, HKD.out.2, HOR.out, by rw [← HSL.out]; exact hroom, by rw [← HAX.out]; rfl, ?_, ?_⟩
            · rw [HAL.out]; first | exact Q8.own.below hb10 | exact (Q8.own.below (Below.refl _ _).drew).below hb10
            · first | exact hB8.trans (hb10.mono hB8.size) | exact hB8.drew.trans (hb10.mono hB8.drew.size))
      · rw [decide_eq_false hr] at kr
        have kh := holdAll_any a bh m.W.length (fun i => decide (i ∈ vs)) (HSH.out.len.2.1) fs (by rw [← HSL.out]; omega) HFU.out af cf w2 (HE.out.below H02.out).we (HMK.out.heads.below HB12.out (by obtain ⟨_, h1, _⟩ := HMK.out; exact lt_of_heap h1)) (by obtain ⟨_, h1, _⟩ := HMK.out; exact Nat.lt_of_lt_of_le (lt_of_heap h1) HB12.out.size) (HRF.out.below HB3.out)
        rw [← HSL.out] at kh
        go_wp2_with fail
        refine kr.mono ?_
        rintro ev w3 ⟨rfl, hq⟩
        rw [hq]
        clear hq kr w3
        cases hal : fs.all (fieldB m.W.length (fun i => decide (i ∈ vs))) with
        | false =>
          rw [hal] at kh
          have HERR : Hid (AllocErr m kd fs 2) := .inr ⟨vs, HSH.out, .inr ⟨HCB.out, .inr ⟨HKD.out.1, HKD.out.2, .inl ⟨by omega, hal, rfl⟩⟩⟩⟩
          clear hal
          go_wp2_with fail
          refine kh.mono ?_
          rintro ev w3 ⟨rfl, hb23⟩
          have hbf := HB3.out.trans (hb23.mono HB3.out.size)
          have k2 := (HE.out.below (HB0.out.trans (hbf.mono HB0.out.size))).c2
          clear kh
          go_wp2_with fail
          go_quiet (fail)
          go_wp2_with fail
          go_ret2
          exact .inl ⟨2, HERR.out, rfl, below_drewN hbf⟩
        | true =>
          rw [hal] at kh
          have HOR : Hid (kd < 8 ∨ fs.all (fieldB m.W.length (fun i => decide (i ∈ vs))) = true) := .inr hal
          clear hal
          go_wp2_with fail
          refine kh.mono ?_
          rintro ev w3 ⟨rfl, hb23⟩
          clear kh
          have HF3 : Hid (∀ W, Below w3.heap.size w3 W → W.cell? ⟨q, 0, none⟩ = some (.int .i64 kd) ∧ W.cell? ⟨q, 1, none⟩ = some (.int .i64 0) ∧ W.cell? ⟨q, 2, none⟩ = some (.int .i64 0) ∧ W.cell? ⟨q, 3, none⟩ = some (.int .i64 (s : Int)) ∧ W.cell? ⟨bx, 0, none⟩ = some (.int .i64 m.half) ∧ W.cell? ⟨bx, 5, none⟩ = some (.int .i64 m.top)) := fun W hW => HF.out W (hb23.trans (hW.mono hb23.size))
          have H3 : Hid (Below w.heap.size w w3) := HB3.out.trans (hb23.mono HB3.out.size)
          have H03 : Hid (Below w0.heap.size w0 w3) := HB0.out.trans (H3.out.mono HB0.out.size)
          clear r0 r1 r2 r3 c0 c5 lo
          obtain ⟨r0, r1, r2, r3, c0, c5⟩ := HF3.out w3 (Below.refl _ _)
          go_upto_region 10 with fail
          by_cases hfull : m.half - m.top < 1 + (s : Int)
          · have HERR : Hid (AllocErr m kd fs 5) := .inr ⟨vs, HSH.out, .inr ⟨HCB.out, .inr ⟨HKD.out.1, HKD.out.2, .inr ⟨HOR.out, by rw [← HSL.out]; exact hfull, rfl⟩⟩⟩⟩
            go_region_held3 (fun W => W.cell? ⟨q, 0, none⟩ = some (.int .i64 kd) ∧ W.cell? ⟨q, 1, none⟩ = some (.int .i64 0) ∧ W.cell? ⟨q, 2, none⟩ = some (.int .i64 0) ∧ W.cell? ⟨q, 3, none⟩ = some (.int .i64 (s : Int)) ∧ W.cell? ⟨bx, 0, none⟩ = some (.int .i64 m.half) ∧ W.cell? ⟨bx, 5, none⟩ = some (.int .i64 m.top)) (first | go_keep | with_reducible exact HF3.out _ hb5) ((go_at_call 40; refine (kw.out _).mono ?_; rintro ev w4 ⟨rfl, hb4⟩; have hb5 : Below w3.heap.size w3 w4 := ((Below.refl _ _).drew).trans (hb4.mono (by simp))))
            all_goals have hb6 := H3.out.trans (hb5.mono H3.out.size)
            all_goals have k5 := (HE.out.below (HB0.out.trans (hb6.mono HB0.out.size))).c5
            all_goals go_wp2_with fail
            all_goals go_quiet (fail)
            all_goals go_wp2
            all_goals go_ret2
            all_goals exact .inl ⟨5, HERR.out, rfl, below_drewN hb6⟩
          · go_region_held3 (fun W => W.cell? ⟨q, 0, none⟩ = some (.int .i64 kd) ∧ W.cell? ⟨q, 1, none⟩ = some (.int .i64 0) ∧ W.cell? ⟨q, 2, none⟩ = some (.int .i64 0) ∧ W.cell? ⟨q, 3, none⟩ = some (.int .i64 (s : Int)) ∧ W.cell? ⟨bx, 0, none⟩ = some (.int .i64 m.half) ∧ W.cell? ⟨bx, 5, none⟩ = some (.int .i64 m.top)) (first | go_keep | with_reducible exact HF3.out _ hb5) ((go_at_call 40; refine (kw.out _).mono ?_; rintro ev w4 ⟨rfl, hb4⟩; have hb5 : Below w3.heap.size w3 w4 := ((Below.refl _ _).drew).trans (hb4.mono (by simp))))
            go_upto_region 12 with fail
            have hroom : m.top + 1 + (s : Int) ≤ m.half := by omega
            have H34 := H3.out.trans (hb5.mono H3.out.size)
            have H04 := H03.out.trans (hb5.mono H03.out.size)
            obtain ⟨z0, z1, z2, z3, _, z5⟩ := HF3.out w4 hb5
            have P := MD.parts HSH.out.1
            have hle := P.le HSH.out.1
            have hn0 := P.n0
            have hn1 := P.n1
            have hnb : (m.n0 : Int) ≤ m.half := by
              obtain e | e : m.used = 0 ∨ m.used = 1 := by omega
              · rw [e, Int.zero_mul] at hn0; omega
              · rw [e, Int.one_mul] at hn0; omega
            obtain ⟨n0, hn0'⟩ : ∃ n0 : Nat, n0 = m.n0 := ⟨_, rfl⟩
            obtain ⟨ax, hax⟩ : ∃ ax : Nat, ax = m.n1 := ⟨_, rfl⟩
            have HAX := toHid hax
            have hxs : ax + 1 + s < m.W.length := by omega
            have hxb : ax ≤ 300000 := by omega
            have hxl : m.W.length ≤ 300000 := HSH.out.len.2.1
            have ew : IntKind.i64.wrap ((n0 : Int) + m.top) = (ax : Int) := by rw [wrapI _ (by omega) (by omega)]; omega
            have M4 := HM.out.below H34 hbx
            have kn : Hid (∀ q, Calls Tryd.prog 41 #[.pointer (some ⟨bx, 0, none⟩)] (w4.drewN q) fun ev w' => ev = .returned (.int .i64 (n0 : Int)) ∧ ∃ n, w' = (w4.drewN q).drewN n) := fun q => by
              have k := nursery_any bx m.half m.used (by omega) (by omega) hu0 hu1 (w4.drewN q) M4.c0 M4.c4
              rw [← hn0, ← hn0'] at k
              exact k
            have HR4 := toHid H34
            have HR04 := toHid H04
            have et : IntKind.i64.wrap (m.top + (1 + (s : Int))) = m.top + (1 + (s : Int)) := wrapI _ (by omega) (by omega)
            clear hn0 hn1 hn0' hax M4 hnum hu0 hu1 hwl hnb hle P H34 H04
            go_quiet ((go_at_call 41; exact Calls.quiet_of (kn.out _)))
            obtain ⟨w5, hw5⟩ : ∃ w5, w5 = w4.drewN nq := ⟨_, rfl⟩
            rw [← hw5]
            have hb7 : Below w4.heap.size w4 w5 := by rw [hw5]; exact below_drewN (Below.refl _ _)
            clear hw5
            have hb05 := HR04.out.trans (hb7.mono HR04.out.size)
            have hbw5 := HR4.out.trans (hb7.mono HR4.out.size)
            have lo4 := lt_of_cell z0
            have y0 := (hb7.cell (p := ⟨q, 0, none⟩) lo4).trans z0
            have y1 := (hb7.cell (p := ⟨q, 1, none⟩) lo4).trans z1
            have y2 := (hb7.cell (p := ⟨q, 2, none⟩) lo4).trans z2
            have y3 := (hb7.cell (p := ⟨q, 3, none⟩) lo4).trans z3
            have Q5 := HQ.out.below hbw5
            obtain ⟨g, cap, rfl, hcap, hBg, hg5, hgx, _, hfz, _⟩ := Q5.rowW (by omega)
            obtain ⟨cur, hcur, hcl⟩ : ∃ cur : List Value, w5.heap[g]? = some (.cells cur.toArray 40 (0, 0)) ∧ cur.length = cap := by
              obtain ⟨_, _, r1, _⟩ := Q5
              rcases r1.2 with ⟨e, _⟩ | ⟨g', cap', cur', e1, _, hg2, _, _, hs2, _⟩
              · cases e
              · cases e1
                exact ⟨cur'.toList, hg2, by rw [Array.length_toList, hs2]; omega⟩
            have hgw : g < w.heap.size := by
              obtain ⟨g', cap', e1, _, _, h1, _⟩ := HQ.out.rowW (by omega)
              cases e1
              exact h1
            have d3 := Q5.mem.c3
            have HQ5 := toHid Q5
            have HCUR := toHid hcur
            have hRF := HRF.out.below hbw5
            have HRF5 := toHid hRF
            have HB05 := toHid hb05
            have lq5 := lt_of_cell y0
            have s2 : (0 : Int) ≤ (ax : Int) + 1 := by omega
            have s3 : (ax : Int) + 1 ≤ (m.W.length : Int) := by omega
            have ea : IntKind.i64.wrap ((ax : Int) + 1) = (ax : Int) + 1 := wrapI _ (by omega) (by omega)
            have hc1 : ¬ cap = ax + 1 := by omega
            have hc2 : ¬ ax + 1 = cap := by omega
            have hc3 : ¬ cap - (ax + 1) = 0 := by omega
            have hmin : (wordsV fs).length = Nat.min s (m.W.length - (ax + 1)) := by rw [lenV, ← HSL.out]; exact (Nat.min_eq_left (by omega)).symm
            have HMIN := toHid hmin
            have HPOS : Hid (0 < (wordsV fs).length → ∃ ad, af = some ad ∧ ∀ j v, (wordsV fs)[j]? = some v → w5.cell? (ad.add j) = some v) := fun h => by
              have hh : 0 < fs.length := by rw [lenV] at h; exact h
              obtain ⟨ad, e1, _, e3⟩ := (HRF5.out).src hh
              exact ⟨ad, e1, e3⟩
            clear hcur hRF hmin Q5 hfz z0 z1 z2 z3 z5 kn hb7 hb05 hbw5
            have hcl2 : (ax + 1) + (wordsV fs).length ≤ cur.length := by rw [lenV, ← HSL.out]; omega
            have HCL2 := toHid hcl2
            have hqg : q ≠ g := by have := HQ1.out; omega
            have HC6 : Hid (∀ w6, w6.heap[g]? = some (.cells (splice cur (ax + 1) (wordsV fs)).toArray 40 (0, 0)) → Apart g w5 w6 → OwnQ w0.heap.size bx (m.cop (ax + 1) fs) (.slice (some ⟨g, 0, none⟩) m.W.length cap) vR vK vI vC w6 ∧ w6.cell? ⟨bx, 3, none⟩ = some (.slice (some ⟨g, 0, none⟩) m.W.length cap) ∧ (∃ cx, w6.cell? ⟨g, ax, none⟩ = some cx) ∧ w6.frozen? ⟨g, ax, none⟩ = false ∧ w6.cell? ⟨q, 0, none⟩ = some (.int .i64 kd) ∧ w6.cell? ⟨q, 1, none⟩ = some (.int .i64 0) ∧ w6.cell? ⟨q, 2, none⟩ = some (.int .i64 0) ∧ w6.cell? ⟨q, 3, none⟩ = some (.int .i64 (s : Int))) := fun w6 hg6 ha6 => by
              have Q6 := HQ5.out.cop cur.toArray HCUR.out (ax + 1) fs (by rw [← HSL.out]; omega) hg6 ha6
              have hl : (m.cop (ax + 1) fs).W.length = m.W.length := length_splice _ _ _ (by rw [← HSL.out]; omega)
              obtain ⟨g', cap', e1, _, _, _, _, hw6, hf6, _⟩ := Q6.rowW (by rw [hl]; omega)
              rw [hl] at e1
              cases e1
              exact ⟨Q6, Q6.mem.c3, ⟨_, hw6 ax (by rw [hl]; omega)⟩, hf6 ax, (World.cell?_of_block (a := ⟨q, 0, none⟩) (ha6.block _ hqg)).trans y0, (World.cell?_of_block (a := ⟨q, 1, none⟩) (ha6.block _ hqg)).trans y1, (World.cell?_of_block (a := ⟨q, 2, none⟩) (ha6.block _ hqg)).trans y2, (World.cell?_of_block (a := ⟨q, 3, none⟩) (ha6.block _ hqg)).trans y3⟩
            have hxi : (ax : Int) < (m.W.length : Int) := by omega
            have hxi0 : (0 : Int) ≤ (ax : Int) := by omega
            clear hcl2
            go_wp2_with (refine wpList_copy_apart rfl _ _ _ _ rfl 40 Tryd.underlying32 infoU64s _ _ _ _ _ _ rfl rfl g (ax + 1) cur 40 HCUR.out (wordsV fs) HMIN.out (fun h => ⟨rfl, HPOS.out h⟩) HCL2.out (one_words fs) ?_; intro w6 hg6 ha6; obtain ⟨Q6, e3, ⟨cx, ex⟩, ef, x0, x1, x2, x3⟩ := HC6.out w6 hg6.out ha6.out; have HQ6 := toHid Q6; clear Q6 d3 y0 y1 y2 y3)
            obtain ⟨w7, hw7⟩ : ∃ w7, w7 = w6.setCell ⟨g, ax, none⟩ (.int .u64 hw) := ⟨_, rfl⟩
            rw [← hw7]
            have Q7 : OwnQ w0.heap.size bx ((m.cop (ax + 1) fs).setW ax hw) (.slice (some ⟨g, 0, none⟩) m.W.length cap) vR vK vI vC w7 := by rw [hw7]; exact HQ6.out.setW ax hw
            have H07 : Hid (Below w0.heap.size w0 w7) := by rw [hw7]; exact (ha6.out.below HB05.out hBg).setCell hBg _
            have fb : ∀ k, k ≠ g → w7.heap[k]? = w6.heap[k]? := fun k hk => by rw [hw7]; exact heap_set _ _ _ _ _ hk
            have u0 := (World.cell?_of_block (a := ⟨q, 0, none⟩) (fb _ hqg)).trans x0
            have u1 := (World.cell?_of_block (a := ⟨q, 1, none⟩) (fb _ hqg)).trans x1
            have u2 := (World.cell?_of_block (a := ⟨q, 2, none⟩) (fb _ hqg)).trans x2
            have u3 := (World.cell?_of_block (a := ⟨q, 3, none⟩) (fb _ hqg)).trans x3
            have u5 : w7.cell? ⟨bx, 5, none⟩ = some (.int .i64 m.top) := Q7.mem.c5
            have uf : w7.frozen? ⟨bx, 5, none⟩ = false := (OB.mem Q7.2.1).2 5
            have lb7 := lt_of_cell u5
            have HQ7 := toHid Q7
            have HAL : Hid (m.allocd kd fs = ((m.cop (ax + 1) fs).setW ax hw).setT (m.top + (1 + (s : Int)))) := by show _ = _; unfold MD.allocd; rw [HHW.out, HAX.out, HSL.out]
            have HBX : Hid (w0.heap.size ≤ bx) := HQ.out.1
            clear hw7 fb Q7 x0 x1 x2 x3 ex ef e3
            go_region_with ((go_at_call 40; refine (kw.out _).mono ?_; rintro ev w8 ⟨rfl, hb8⟩; have hb9 : Below w7.heap.size w7 w8 := ((Below.refl _ _).drew).trans (hb8.mono (by simp)); have t5 := (hb9.cell (p := ⟨bx, 5, none⟩) lb7).trans u5; have tf := (hb9.frozen (p := ⟨bx, 5, none⟩) lb7).trans uf))
            all_goals go_wp2_with fail
            all_goals refine (ofAddr_ok (ax : Int) (by omega) (by omega) _).mono ?_
            all_goals rintro ev w9 ⟨rfl, hb10⟩
            all_goals go_wp2_with fail
            all_goals go_ret2
            all_goals (
              have Q8 := (HQ7.out.below hb9).setT (m.top + (1 + (s : Int)))
              have hB8 : Below w0.heap.size w0 (w8.setCell ⟨bx, 5, none⟩ (.int .i64 (m.top + (1 + (s : Int))))) := (H07.out.trans (hb9.mono H07.out.size)).setCell HBX.out _
              refine .inr ⟨vs, HSH.out, HCB.out, HKD.out.1, HKD.out.2, HOR.out, by rw [← HSL.out]; exact hroom, by rw [← HAX.out]; rfl, ?_, ?_⟩
              · rw [HAL.out]; first | exact Q8.own.below hb10 | exact (Q8.own.below (Below.refl _ _).drew).below hb10
              · first | exact hB8.trans (hb10.mono hB8.size) | exact hB8.drew.trans (hb10.mono hB8.drew.size))
    · have ko := ofHead_no a kd 0 0 (s : Int) (by omega) (w1.alloc (.cells #[.int .i64 kd, .int .i64 0, .int .i64 0, .int .i64 (s : Int)] 79)) (HE.out.below (HB0.out.trans (hb1a.mono HB0.out.size))).we
      unfold errV at ko
      have HERR : Hid (AllocErr m kd fs 1) := .inr ⟨vs, HSH.out, .inr ⟨HCB.out, .inl ⟨hkd, rfl⟩⟩⟩
      clear hkd
      go_wp2_with fail
      refine ko.mono ?_
      rintro ev w2 ⟨rfl, hb2⟩
      have hb3 := hb1a.trans (hb2.mono hb1a.size)
      clear ko hb2
      go_wp2_with fail
      go_ret2
      exact .inl ⟨1, HERR.out, rfl, hb3⟩
  · have HERR : Hid (AllocErr m kd fs 4) := .inr ⟨vs, hsh, .inl ⟨hcb, rfl⟩⟩
    clear ks hsh hcb
    unfold errV
    go_wp2_with fail
    go_ret2
    exact .inl ⟨4, HERR.out, rfl, hb1⟩
  · have HERR : Hid (AllocErr m kd fs 2) := .inl ⟨hno, rfl⟩
    clear ks hno
    unfold errV
    go_wp2_with fail
    go_ret2
    exact .inl ⟨2, HERR.out, rfl, hb1⟩
end Go.Proofs.YtbkmgempejckeaaDoor
