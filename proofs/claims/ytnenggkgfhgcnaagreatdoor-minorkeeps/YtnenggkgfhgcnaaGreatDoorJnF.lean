/- The document's CheckOf of every memory; All of a right one; Check of a right one: by contracts. -/
import Derived.Test.YtnenggkgfhgcnaaGreatDoorMemRH
import Derived.Test.YtnenggkgfhgcnaaGreatDoorJnO
import Derived.Test.YtnenggkgfhgcnaaGreatDoorJnN
import Derived.Laws.CopyOwn
import Derived.Test.YtnenggkgfhgcnaaGreatDoorJnM
import Derived.Test.YtnenggkgfhgcnaaGreatDoorMnK
import Derived.Test.YtnenggkgfhgcnaaGreatDoorMemGS
import Derived.Test.YtnenggkgfhgcnaaGreatDoorJnK
import Derived.Test.YtnenggkgfhgcnaaGreatDoorJnD
import Derived.Test.YtnenggkgfhgcnaaGreatDoorMemV
namespace Go.Proofs.YtnenggkgfhgcnaaGreatDoor
open Go.RowKit

/-- What CheckOf answers. -/
def CheckPost (m : MD) (w : World) (ev : Ending) (w' : World) : Prop := Below w.heap.size w w' ∧ ((∃ vs, m.Shape vs ∧ m.cardsB = true ∧ ev = .returned (.int .i64 0)) ∨ (∃ vs, m.Shape vs ∧ m.cardsB = false ∧ ev = .returned (.int .i64 5)) ∨ ((∀ vs, ¬ m.Shape vs) ∧ ev = .returned (.int .i64 3)))
theorem checkOf_any (p o : Nat) (m : MD) (h64 : MD64 m) (bR : m.R.length ≤ 300000) (bK : m.K.length ≤ 300000) (bI : m.I.length ≤ 300000) (w : World) (R : RepM p o m w) :
    Calls Tryz.prog 9 #[.pointer (some ⟨p, o, none⟩)] w (CheckPost m w) := by
  by_cases hF : m.FitsM
  · refine (checkOf_fit p o m hF h64 bR bK bI w R).mono ?_
    rintro ev w' ⟨n, rfl, hb, hc⟩
    rcases hc.out hF h64 with ⟨vs, h1, h2, rfl⟩ | ⟨vs, h1, h2, rfl⟩ | ⟨h1, rfl⟩
    · exact ⟨hb, .inl ⟨vs, h1, h2, rfl⟩⟩
    · exact ⟨hb, .inr (.inl ⟨vs, h1, h2, rfl⟩)⟩
    · exact ⟨hb, .inr (.inr ⟨h1, rfl⟩)⟩
  · refine (checkOf_unfit p o m hF w R).mono ?_
    rintro ev w' ⟨rfl, hb⟩
    exact ⟨hb, .inr (.inr ⟨fun vs h => hF h.1, rfl⟩)⟩
theorem check_right (a : Nat → Addr) (p : Nat) (m : MD) (vs : List Nat) (hS : m.Shape vs) (hC : m.cardsB = true) (h64 : MD64 m) (bR : m.R.length ≤ 300000) (bK : m.K.length ≤ 300000) (bI : m.I.length ≤ 300000) (w : World) (E : MErr3 a w) (R : RepP p m w) :
    Calls Tryz.prog 40 #[.pointer (some ⟨p, 0, none⟩)] w fun ev w' => ev = .returned .nilIface ∧ Below w.heap.size w w' := by
  have ks := survey_right a p m vs hS hC h64 bR bK bI w E R
  go_enter Tryz.func40, Tryz.ntmps40
  go_wp2_with fail
  refine ks.mono ?_
  rintro ev w1 ⟨bh, rfl, _, _, hb⟩
  go_wp2_with fail
  go_ret
  exact ⟨rfl, hb⟩
end Go.Proofs.YtnenggkgfhgcnaaGreatDoor

/- Package mem: Alloc of every memory, exactly. -/
namespace Go.Proofs.YtnenggkgfhgcnaaGreatDoor
open Go.RowKit

/-- All blocks but one are as they were. -/
structure Apart (g : Nat) (w w' : World) : Prop where
  os : w'.os = w.os
  tape : w'.tape = w.tape
  output : w'.output = w.output
  size : w'.heap.size = w.heap.size
  block : ∀ k, k ≠ g → w'.heap[k]? = w.heap[k]?
theorem Apart.below {g B : Nat} {w0 w w' : World} (h : Apart g w w') (hb : Below B w0 w) (hg : B ≤ g) : Below B w0 w' := ⟨h.os.trans hb.os, h.tape.trans hb.tape, h.output.trans hb.output, by rw [h.size]; exact hb.size, fun k hk => (h.block k (by omega)).trans (hb.block k hk)⟩
theorem wpList_copy_apart {P : Program} {w : World} {ops : Array Oper} {rest : List Oper} {o : Oper} {a : Act} {Q : Exit → Act → World → Prop} (hgd : o.guard = none) (d s : Operand) (dT sT : TypeId)
    (ho : o.op = .call { callee := .builtin .copy, args := #[d, s], argTypes := #[dT, sT] }) (elem : TypeId) (hu : P.underlying dT = some (.slice elem)) (hsz : (P.info? elem).map (·.size) = some 1)
    (dp sp : Option Addr) (dLen dCap sLen sCap : Nat) (hd : a.eval d = .slice dp dLen dCap) (hs : a.eval s = .slice sp sLen sCap)
    (g off : Nat) (cur : List Value) (t : TypeId) (hg : w.heap[g]? = some (.cells cur.toArray t (0, 0))) (cs : List Value) (hn : cs.length = Nat.min sLen dLen)
    (hpos : 0 < cs.length → dp = some ⟨g, off, none⟩ ∧ ∃ ad, sp = some ad ∧ ∀ j v, cs[j]? = some v → w.cell? (ad.add j) = some v)
    (hfit : off + cs.length ≤ cur.length) (h1 : ∀ v ∈ cs, v.oneCell' = true)
    (h : ∀ w', Hid (w'.heap[g]? = some (.cells (splice cur off cs).toArray t (0, 0))) → Hid (Apart g w w') → wpList P ops Q rest (a.put o.dst (goInt cs.length)) w') :
    wpList P ops Q (o :: rest) a w := by
  by_cases h0 : cs.length = 0
  · obtain rfl : cs = [] := List.eq_nil_of_length_eq_zero h0
    refine wpList_copy_nothing hgd d s dT sT ho elem hu hsz dp sp dLen dCap sLen sCap hd hs (by simpa using hn.symm) ?_
    exact h w (show _ = _ by simpa [splice] using hg) ⟨rfl, rfl, rfl, rfl, fun _ _ => rfl⟩
  · obtain ⟨rfl, ad, rfl, hsrc⟩ := hpos (by omega)
    refine wpList_copy_own hgd d s dT sT ho elem hu hsz g off dLen dCap ad sLen sCap hd hs cur.toArray t hg cs hn hsrc (by simpa using hfit) h1 ?_
    exact h _ (show _ = _ by simpa [splice] using setRow_heap w g _ _ t _ hg) ⟨rfl, rfl, rfl, by simp [World.setRow], fun k hk => setRow_other w g k _ hk⟩
/-- Words are laid over a memory's words. -/
def MD.cop (m : MD) (off : Nat) (fs : List Int) : MD := { m with W := splice m.W off fs }
theorem splice_take {α : Type} (L cs : List α) (off n : Nat) (h : off + cs.length ≤ n) : (splice L off cs).take n = splice (L.take n) off cs := by
  unfold splice
  rw [List.take_append, List.take_append, List.take_take, List.take_take, List.drop_take, List.length_take]
  rw [Nat.min_eq_left (by omega : off ≤ n), Nat.min_eq_right (by omega : off ≤ n)]
  by_cases hl : off ≤ L.length
  · rw [Nat.min_eq_left hl, List.take_of_length_le (l := cs) (by omega), Nat.sub_sub]
  · have e1 : L.drop (off + cs.length) = [] := List.drop_eq_nil_of_le (by omega)
    rw [e1, List.take_nil, List.take_nil, List.append_nil]
    have e2 : min off L.length = L.length := by omega
    rw [e2, List.take_of_length_le (l := cs) (by omega), List.append_nil]
theorem splice_map {α β : Type} (f : α → β) (L cs : List α) (off : Nat) : (splice L off cs).map f = splice (L.map f) off (cs.map f) := by
  unfold splice
  rw [List.map_append, List.map_append, List.map_take, List.map_drop, List.length_map]
theorem OwnQ.cop {B bx g cap n : Nat} {m : MD} {vR vK vI vC : Value} {w w' : World} (h : OwnQ B bx m (.slice (some ⟨g, 0, none⟩) n cap) vR vK vI vC w) (cur : Array Value) (hg : w.heap[g]? = some (.cells cur 50 (0, 0))) (off : Nat) (fs : List Int) (hf : off + fs.length ≤ m.W.length) (hg' : w'.heap[g]? = some (.cells (splice cur.toList off (wordsV fs)).toArray 50 (0, 0))) (ha : Apart g w w') : OwnQ B bx (m.cop off fs) (.slice (some ⟨g, 0, none⟩) n cap) vR vK vI vC w' := by
  obtain ⟨h0, hO, r1, r2, r3, r4, r5, d1, d2, d3⟩ := h
  obtain rfl : n = m.W.length := by
    rcases r1.2 with ⟨e, _⟩ | ⟨_, _, _, e, _⟩
    · cases e
    · cases e; rfl
  have hne : ∀ v ∈ [vR, vK, vI, vC], ∀ k, v.ownBlock = some k → w'.heap[k]? = w.heap[k]? := fun v hv k hk => ha.block k (fun e => d2 v hv g rfl (by rw [hk, e]))
  refine ⟨h0, (ha.block bx (fun e => d1 (.slice (some ⟨g, 0, none⟩) m.W.length cap) (by simp) (by rw [e]; rfl))).trans hO, ?_, ownsRow_far' r2 (hne vR (by simp)), ownsRow_far' r3 (hne vK (by simp)), ownsRow_far' r4 (hne vI (by simp)), ownsRow_far' r5 (hne vC (by simp)), d1, d2, d3⟩
  have hl : (splice m.W off fs).length = m.W.length := length_splice _ _ _ hf
  show w'.ownsRow B 50 1 _ (splice m.W off fs).length (wordsV (splice m.W off fs))
  rw [hl]
  obtain ⟨l1, hr⟩ := r1
  rcases hr with ⟨e, _⟩ | ⟨g', cap', cur', e1, hb, hg2, hc, hm, hs, ht⟩
  · cases e
  · cases e1
    rw [hg] at hg2
    cases hg2
    refine ⟨by rw [lenV, hl]; omega, .inr ⟨g, cap, _, rfl, hb, hg', hc, hm, ?_, ?_⟩⟩
    · have e1 : cur.toList.length = cap * 1 := by rw [Array.length_toList, hs]
      have e2 := lenV fs
      rw [List.size_toArray, length_splice _ _ _ (by omega), e1]
    · rw [splice_take _ _ _ _ (by rw [lenV]; omega), ht]
      unfold wordsV
      rw [← splice_map]
/-- Why Alloc does not. -/
def AllocErr (m : MD) (kd : Int) (fs : List Int) (k : Nat) : Prop := ((∀ vs, ¬ m.Shape vs) ∧ k = 2) ∨ ∃ vs, m.Shape vs ∧ ((m.cardsB = false ∧ k = 4) ∨ (m.cardsB = true ∧ ((¬ (0 ≤ kd ∧ kd ≤ 255) ∧ k = 1) ∨ (0 ≤ kd ∧ kd ≤ 255 ∧ ((8 ≤ kd ∧ fs.all (fieldB m.W.length (fun i => decide (i ∈ vs))) = false ∧ k = 2) ∨ ((kd < 8 ∨ fs.all (fieldB m.W.length (fun i => decide (i ∈ vs))) = true) ∧ m.half - m.top < 1 + (fs.length : Int) ∧ k = 5))))))
/-- What a memory is behind Alloc. -/
def MD.allocd (m : MD) (kd : Int) (fs : List Int) : MD := ((m.cop (m.n1 + 1) fs).setW m.n1 ((fs.length : Int) * 65536 + 0 * 16384 + 0 * 1024 + kd * 4 + 3)).setT (m.top + (1 + (fs.length : Int)))
/-- What Alloc answers. -/
def AllocPost (a : Nat → Addr) (w0 : World) (bx : Nat) (m : MD) (kd : Int) (fs : List Int) (w : World) (ev : Ending) (w' : World) : Prop :=
  (∃ k, AllocErr m kd fs k ∧ ev = .returned (.tuple #[.int .u64 0, errV a k]) ∧ Below w.heap.size w w') ∨
  (∃ vs, m.Shape vs ∧ m.cardsB = true ∧ 0 ≤ kd ∧ kd ≤ 255 ∧ (kd < 8 ∨ fs.all (fieldB m.W.length (fun i => decide (i ∈ vs))) = true) ∧ m.top + 1 + (fs.length : Int) ≤ m.half ∧ ev = .returned (.tuple #[.int .u64 (((m.n1 : Int) + 1) * 4), .nilIface]) ∧ OwnP w0.heap.size bx (m.allocd kd fs) w' ∧ Below w0.heap.size w0 w')
set_option maxHeartbeats 8000000 in
set_option maxRecDepth 100000 in
theorem alloc_any (a : Nat → Addr) (w0 : World) (bx : Nat) (m : MD) (h64 : MD64 m) (bR : m.R.length ≤ 300000) (bK : m.K.length ≤ 300000) (bI : m.I.length ≤ 300000) (kd : Int) (fs : List Int) (hfu : U64 fs) (hfl : fs.length ≤ 4096) (af : Option Addr) (cf : Nat) (w : World) (E : MErr a w0) (hb0 : Below w0.heap.size w0 w) (O : OwnP w0.heap.size bx m w) (RF : RowV w (.slice af fs.length cf) fs.length (wordsV fs)) :
    Calls Tryz.prog 22 #[.pointer (some ⟨bx, 0, none⟩), .int .i64 kd, .slice af fs.length cf] w (AllocPost a w0 bx m kd fs w) := by
  obtain ⟨vW, vR, vK, vI, vC, Q⟩ := O.named
  have HQ := toHid Q
  have HE := toHid E
  have HB0 := toHid hb0
  have HRF := toHid RF
  have HFU := toHid hfu
  have M := Q.mem
  have hbx := lt_of_cell M.c0
  have HM := toHid M
  have ks := survey_any a bx m h64 bR bK bI w (E.below hb0) O.repP
  obtain ⟨s, hs⟩ : ∃ s : Nat, s = fs.length := ⟨_, rfl⟩
  have HSL := toHid hs
  rw [← hs]
  have hs1 : s ≤ 4096 := by omega
  clear Q M E O hb0 RF hfu hs hfl
  go_enter Tryz.func22, Tryz.ntmps22
  go_wp2_with fail
  refine ks.mono ?_
  rintro ev w1 ⟨hb1, ⟨vs, bh, hsh, hcb, rfl, hmk, _⟩ | ⟨vs, hsh, hcb, rfl⟩ | ⟨hno, rfl⟩⟩
  · have hfit := hsh.1
    have hnum := hfit.nums
    unfold numsOK at hnum
    have hu0 := hfit.u0
    have hu1 := hfit.u1
    have ht0 := hfit.t0
    have ht1 := hfit.t1
    have hwl := hfit.w
    have HSH := toHid hsh
    have HCB := toHid hcb
    have HMK := toHid hmk
    clear hfit ks hsh hcb hmk
    have hb1a : Below w.heap.size w (w1.alloc (.cells #[.int .i64 kd, .int .i64 0, .int .i64 0, .int .i64 (s : Int)] 92)) := hb1.alloc hb1.size _
    have hba1 : Below w1.heap.size w1 (w1.alloc (.cells #[.int .i64 kd, .int .i64 0, .int .i64 0, .int .i64 (s : Int)] 92)) := (Below.refl _ _).alloc (Nat.le_refl _) _
    by_cases hkd : 0 ≤ kd ∧ kd ≤ 255
    · have ko := ofHead_ok kd 0 0 (s : Int) hkd.1 hkd.2 (by omega) (by omega) (by omega) (by omega) (by omega) (by omega) (w1.alloc (.cells #[.int .i64 kd, .int .i64 0, .int .i64 0, .int .i64 (s : Int)] 92))
      obtain ⟨hw, hhw⟩ : ∃ hw, hw = (s : Int) * 65536 + 0 * 16384 + 0 * 1024 + kd * 4 + 3 := ⟨_, rfl⟩
      rw [← hhw] at ko
      have HHW := toHid hhw
      have HKD := toHid hkd
      clear hhw
      go_wp2_with fail
      refine ko.mono ?_
      rintro ev w2 ⟨rfl, hb2⟩
      have hid := (hb2.block w1.heap.size (by simp)).trans (heap_alloc_new w1 _)
      have hb3 := hb1a.trans (hb2.mono hb1a.size)
      have hb12 : Below w1.heap.size w1 w2 := hba1.trans (hb2.mono hba1.size)
      clear ko hb1a hb2 hba1
      have hz1 := hb1.size
      obtain ⟨r0, r1, r2, r3, _⟩ := head_block hid
      have lo := lt_of_heap hid
      have M2 := HM.out.below hb3 hbx
      have c0 := M2.c0
      have c5 := M2.c5
      have HB3 := toHid hb3
      have HB12 := toHid hb12
      have H02 := toHid (HB0.out.trans (hb3.mono HB0.out.size))
      clear M2 hid hb12
      obtain ⟨q, hq⟩ : ∃ q, q = w1.heap.size := ⟨_, rfl⟩
      have HQ1 : Hid (w.heap.size ≤ q) := by show _ ≤ _; rw [hq]; exact hz1
      rw [← hq] at r0 r1 r2 r3 lo ⊢
      clear hq hz1 hb3
      have HF : Hid (∀ W, Below w2.heap.size w2 W → W.cell? ⟨q, 0, none⟩ = some (.int .i64 kd) ∧ W.cell? ⟨q, 1, none⟩ = some (.int .i64 0) ∧ W.cell? ⟨q, 2, none⟩ = some (.int .i64 0) ∧ W.cell? ⟨q, 3, none⟩ = some (.int .i64 (s : Int)) ∧ W.cell? ⟨bx, 0, none⟩ = some (.int .i64 m.half) ∧ W.cell? ⟨bx, 5, none⟩ = some (.int .i64 m.top)) := fun W hW => ⟨(hW.cell (p := ⟨q, 0, none⟩) lo).trans r0, (hW.cell (p := ⟨q, 1, none⟩) lo).trans r1, (hW.cell (p := ⟨q, 2, none⟩) lo).trans r2, (hW.cell (p := ⟨q, 3, none⟩) lo).trans r3, (hW.cell (p := ⟨bx, 0, none⟩) (lt_of_cell c0)).trans c0, (hW.cell (p := ⟨bx, 5, none⟩) (lt_of_cell c5)).trans c5⟩
      have kw : Hid (∀ w, Calls Tryz.prog 49 #[.agg #[.int .i64 kd, .int .i64 0, .int .i64 0, .int .i64 (s : Int)]] w fun ev w' => ev = .returned (.int .i64 (1 + (s : Int))) ∧ Below w.heap.size w w') := fun w => words_any kd 0 0 (s : Int) (by omega) (by omega) w
      have eh : IntKind.i64.wrap (m.half - m.top) = m.half - m.top := wrapI _ (by omega) (by omega)
      have kr := raw_any kd hkd.1 w2
      by_cases hr : kd < 8
      · rw [decide_eq_true hr] at kr
        have HOR : Hid (kd < 8 ∨ fs.all (fieldB m.W.length (fun i => decide (i ∈ vs))) = true) := .inl hr
        go_wp2_with fail
        refine kr.mono ?_
        rintro ev w3 ⟨rfl, hq⟩
        rw [hq]
        clear hq kr w3
        obtain ⟨w3, hw3⟩ : ∃ w3, w3 = w2 := ⟨_, rfl⟩
        have hb23 : Below w2.heap.size w2 w3 := by rw [hw3]; exact Below.refl _ _
        rw [← hw3]
        clear hw3
        have HF3 : Hid (∀ W, Below w3.heap.size w3 W → W.cell? ⟨q, 0, none⟩ = some (.int .i64 kd) ∧ W.cell? ⟨q, 1, none⟩ = some (.int .i64 0) ∧ W.cell? ⟨q, 2, none⟩ = some (.int .i64 0) ∧ W.cell? ⟨q, 3, none⟩ = some (.int .i64 (s : Int)) ∧ W.cell? ⟨bx, 0, none⟩ = some (.int .i64 m.half) ∧ W.cell? ⟨bx, 5, none⟩ = some (.int .i64 m.top)) := fun W hW => HF.out W (hb23.trans (hW.mono hb23.size))
        have H3 : Hid (Below w.heap.size w w3) := HB3.out.trans (hb23.mono HB3.out.size)
        have H03 : Hid (Below w0.heap.size w0 w3) := HB0.out.trans (H3.out.mono HB0.out.size)
        clear r0 r1 r2 r3 c0 c5 lo
        obtain ⟨r0, r1, r2, r3, c0, c5⟩ := HF3.out w3 (Below.refl _ _)
        go_upto_region 10 with fail
        by_cases hfull : m.half - m.top < 1 + (s : Int)
        · have HERR : Hid (AllocErr m kd fs 5) := .inr ⟨vs, HSH.out, .inr ⟨HCB.out, .inr ⟨HKD.out.1, HKD.out.2, .inr ⟨HOR.out, by rw [← HSL.out]; exact hfull, rfl⟩⟩⟩⟩
          go_region_held3 (fun W => W.cell? ⟨q, 0, none⟩ = some (.int .i64 kd) ∧ W.cell? ⟨q, 1, none⟩ = some (.int .i64 0) ∧ W.cell? ⟨q, 2, none⟩ = some (.int .i64 0) ∧ W.cell? ⟨q, 3, none⟩ = some (.int .i64 (s : Int)) ∧ W.cell? ⟨bx, 0, none⟩ = some (.int .i64 m.half) ∧ W.cell? ⟨bx, 5, none⟩ = some (.int .i64 m.top)) (first | go_keep | with_reducible exact HF3.out _ hb5) ((go_at_call 49; refine (kw.out _).mono ?_; rintro ev w4 ⟨rfl, hb4⟩; have hb5 : Below w3.heap.size w3 w4 := ((Below.refl _ _).drew).trans (hb4.mono (by simp))))
          all_goals have hb6 := H3.out.trans (hb5.mono H3.out.size)
          all_goals have k5 := (HE.out.below (HB0.out.trans (hb6.mono HB0.out.size))).c5
          all_goals go_wp2_with fail
          all_goals go_quiet (fail)
          all_goals go_wp2
          all_goals go_ret2
          all_goals exact .inl ⟨5, HERR.out, rfl, below_drewN hb6⟩
        · go_region_held3 (fun W => W.cell? ⟨q, 0, none⟩ = some (.int .i64 kd) ∧ W.cell? ⟨q, 1, none⟩ = some (.int .i64 0) ∧ W.cell? ⟨q, 2, none⟩ = some (.int .i64 0) ∧ W.cell? ⟨q, 3, none⟩ = some (.int .i64 (s : Int)) ∧ W.cell? ⟨bx, 0, none⟩ = some (.int .i64 m.half) ∧ W.cell? ⟨bx, 5, none⟩ = some (.int .i64 m.top)) (first | go_keep | with_reducible exact HF3.out _ hb5) ((go_at_call 49; refine (kw.out _).mono ?_; rintro ev w4 ⟨rfl, hb4⟩; have hb5 : Below w3.heap.size w3 w4 := ((Below.refl _ _).drew).trans (hb4.mono (by simp))))
          go_upto_region 12 with fail
          have hroom : m.top + 1 + (s : Int) ≤ m.half := by omega
          have H34 := H3.out.trans (hb5.mono H3.out.size)
          have H04 := H03.out.trans (hb5.mono H03.out.size)
          obtain ⟨z0, z1, z2, z3, _, z5⟩ := HF3.out w4 hb5
          have P := MD.parts HSH.out.1
          have hle := P.le HSH.out.1
          have hn0 := P.n0
          have hn1 := P.n1
          have hnb : (m.n0 : Int) ≤ m.half := by
            obtain e | e : m.used = 0 ∨ m.used = 1 := by omega
            · rw [e, Int.zero_mul] at hn0; omega
            · rw [e, Int.one_mul] at hn0; omega
          obtain ⟨n0, hn0'⟩ : ∃ n0 : Nat, n0 = m.n0 := ⟨_, rfl⟩
          obtain ⟨ax, hax⟩ : ∃ ax : Nat, ax = m.n1 := ⟨_, rfl⟩
          have HAX := toHid hax
          have hxs : ax + 1 + s < m.W.length := by omega
          have hxb : ax ≤ 300000 := by omega
          have hxl : m.W.length ≤ 300000 := HSH.out.len.2.1
          have ew : IntKind.i64.wrap ((n0 : Int) + m.top) = (ax : Int) := by rw [wrapI _ (by omega) (by omega)]; omega
          have M4 := HM.out.below H34 hbx
          have kn : Hid (∀ q, Calls Tryz.prog 50 #[.pointer (some ⟨bx, 0, none⟩)] (w4.drewN q) fun ev w' => ev = .returned (.int .i64 (n0 : Int)) ∧ ∃ n, w' = (w4.drewN q).drewN n) := fun q => by
            have k := nursery_any bx m.half m.used (by omega) (by omega) hu0 hu1 (w4.drewN q) M4.c0 M4.c4
            rw [← hn0, ← hn0'] at k
            exact k
          have HR4 := toHid H34
          have HR04 := toHid H04
          have et : IntKind.i64.wrap (m.top + (1 + (s : Int))) = m.top + (1 + (s : Int)) := wrapI _ (by omega) (by omega)
          clear hn0 hn1 hn0' hax M4 hnum hu0 hu1 hwl hnb hle P H34 H04
          go_quiet ((go_at_call 50; exact Calls.quiet_of (kn.out _)))
          obtain ⟨w5, hw5⟩ : ∃ w5, w5 = w4.drewN nq := ⟨_, rfl⟩
          rw [← hw5]
          have hb7 : Below w4.heap.size w4 w5 := by rw [hw5]; exact below_drewN (Below.refl _ _)
          clear hw5
          have hb05 := HR04.out.trans (hb7.mono HR04.out.size)
          have hbw5 := HR4.out.trans (hb7.mono HR4.out.size)
          have lo4 := lt_of_cell z0
          have y0 := (hb7.cell (p := ⟨q, 0, none⟩) lo4).trans z0
          have y1 := (hb7.cell (p := ⟨q, 1, none⟩) lo4).trans z1
          have y2 := (hb7.cell (p := ⟨q, 2, none⟩) lo4).trans z2
          have y3 := (hb7.cell (p := ⟨q, 3, none⟩) lo4).trans z3
          have Q5 := HQ.out.below hbw5
          obtain ⟨g, cap, rfl, hcap, hBg, hg5, hgx, _, hfz, _⟩ := Q5.rowW (by omega)
          obtain ⟨cur, hcur, hcl⟩ : ∃ cur : List Value, w5.heap[g]? = some (.cells cur.toArray 50 (0, 0)) ∧ cur.length = cap := by
            obtain ⟨_, _, r1, _⟩ := Q5
            rcases r1.2 with ⟨e, _⟩ | ⟨g', cap', cur', e1, _, hg2, _, _, hs2, _⟩
            · cases e
            · cases e1
              exact ⟨cur'.toList, hg2, by rw [Array.length_toList, hs2]; omega⟩
          have hgw : g < w.heap.size := by
            obtain ⟨g', cap', e1, _, _, h1, _⟩ := HQ.out.rowW (by omega)
            cases e1
            exact h1
          have d3 := Q5.mem.c3
          have HQ5 := toHid Q5
          have HCUR := toHid hcur
          have hRF := HRF.out.below hbw5
          have HRF5 := toHid hRF
          have HB05 := toHid hb05
          have lq5 := lt_of_cell y0
          have s2 : (0 : Int) ≤ (ax : Int) + 1 := by omega
          have s3 : (ax : Int) + 1 ≤ (m.W.length : Int) := by omega
          have ea : IntKind.i64.wrap ((ax : Int) + 1) = (ax : Int) + 1 := wrapI _ (by omega) (by omega)
          have hc1 : ¬ cap = ax + 1 := by omega
          have hc2 : ¬ ax + 1 = cap := by omega
          have hc3 : ¬ cap - (ax + 1) = 0 := by omega
          have hmin : (wordsV fs).length = Nat.min s (m.W.length - (ax + 1)) := by rw [lenV, ← HSL.out]; exact (Nat.min_eq_left (by omega)).symm
          have HMIN := toHid hmin
          have HPOS : Hid (0 < (wordsV fs).length → ∃ ad, af = some ad ∧ ∀ j v, (wordsV fs)[j]? = some v → w5.cell? (ad.add j) = some v) := fun h => by
            have hh : 0 < fs.length := by rw [lenV] at h; exact h
            obtain ⟨ad, e1, _, e3⟩ := (HRF5.out).src hh
            exact ⟨ad, e1, e3⟩
          clear hcur hRF hmin Q5 hfz z0 z1 z2 z3 z5 kn hb7 hb05 hbw5
          have hcl2 : (ax + 1) + (wordsV fs).length ≤ cur.length := by rw [lenV, ← HSL.out]; omega
          have HCL2 := toHid hcl2
          have hqg : q ≠ g := by have := HQ1.out; omega
          have HC6 : Hid (∀ w6, w6.heap[g]? = some (.cells (splice cur (ax + 1) (wordsV fs)).toArray 50 (0, 0)) → Apart g w5 w6 → OwnQ w0.heap.size bx (m.cop (ax + 1) fs) (.slice (some ⟨g, 0, none⟩) m.W.length cap) vR vK vI vC w6 ∧ w6.cell? ⟨bx, 3, none⟩ = some (.slice (some ⟨g, 0, none⟩) m.W.length cap) ∧ (∃ cx, w6.cell? ⟨g, ax, none⟩ = some cx) ∧ w6.frozen? ⟨g, ax, none⟩ = false ∧ w6.cell? ⟨q, 0, none⟩ = some (.int .i64 kd) ∧ w6.cell? ⟨q, 1, none⟩ = some (.int .i64 0) ∧ w6.cell? ⟨q, 2, none⟩ = some (.int .i64 0) ∧ w6.cell? ⟨q, 3, none⟩ = some (.int .i64 (s : Int))) := fun w6 hg6 ha6 => by
            have Q6 := HQ5.out.cop cur.toArray HCUR.out (ax + 1) fs (by rw [← HSL.out]; omega) hg6 ha6
            have hl : (m.cop (ax + 1) fs).W.length = m.W.length := length_splice _ _ _ (by rw [← HSL.out]; omega)
            obtain ⟨g', cap', e1, _, _, _, _, hw6, hf6, _⟩ := Q6.rowW (by rw [hl]; omega)
            rw [hl] at e1
            cases e1
            exact ⟨Q6, Q6.mem.c3, ⟨_, hw6 ax (by rw [hl]; omega)⟩, hf6 ax, (World.cell?_of_block (a := ⟨q, 0, none⟩) (ha6.block _ hqg)).trans y0, (World.cell?_of_block (a := ⟨q, 1, none⟩) (ha6.block _ hqg)).trans y1, (World.cell?_of_block (a := ⟨q, 2, none⟩) (ha6.block _ hqg)).trans y2, (World.cell?_of_block (a := ⟨q, 3, none⟩) (ha6.block _ hqg)).trans y3⟩
          have hxi : (ax : Int) < (m.W.length : Int) := by omega
          have hxi0 : (0 : Int) ≤ (ax : Int) := by omega
          clear hcl2
          go_wp2_with (refine wpList_copy_apart rfl _ _ _ _ rfl 50 Tryz.underlying26 infoU64s _ _ _ _ _ _ rfl rfl g (ax + 1) cur 50 HCUR.out (wordsV fs) HMIN.out (fun h => ⟨rfl, HPOS.out h⟩) HCL2.out (one_words fs) ?_; intro w6 hg6 ha6; obtain ⟨Q6, e3, ⟨cx, ex⟩, ef, x0, x1, x2, x3⟩ := HC6.out w6 hg6.out ha6.out; have HQ6 := toHid Q6; clear Q6 d3 y0 y1 y2 y3)
          obtain ⟨w7, hw7⟩ : ∃ w7, w7 = w6.setCell ⟨g, ax, none⟩ (.int .u64 hw) := ⟨_, rfl⟩
          rw [← hw7]
          have Q7 : OwnQ w0.heap.size bx ((m.cop (ax + 1) fs).setW ax hw) (.slice (some ⟨g, 0, none⟩) m.W.length cap) vR vK vI vC w7 := by rw [hw7]; exact HQ6.out.setW ax hw
          have H07 : Hid (Below w0.heap.size w0 w7) := by rw [hw7]; exact (ha6.out.below HB05.out hBg).setCell hBg _
          have fb : ∀ k, k ≠ g → w7.heap[k]? = w6.heap[k]? := fun k hk => by rw [hw7]; exact heap_set _ _ _ _ _ hk
          have u0 := (World.cell?_of_block (a := ⟨q, 0, none⟩) (fb _ hqg)).trans x0
          have u1 := (World.cell?_of_block (a := ⟨q, 1, none⟩) (fb _ hqg)).trans x1
          have u2 := (World.cell?_of_block (a := ⟨q, 2, none⟩) (fb _ hqg)).trans x2
          have u3 := (World.cell?_of_block (a := ⟨q, 3, none⟩) (fb _ hqg)).trans x3
          have u5 : w7.cell? ⟨bx, 5, none⟩ = some (.int .i64 m.top) := Q7.mem.c5
          have uf : w7.frozen? ⟨bx, 5, none⟩ = false := (OB.mem Q7.2.1).2 5
          have lb7 := lt_of_cell u5
          have HQ7 := toHid Q7
          have HAL : Hid (m.allocd kd fs = ((m.cop (ax + 1) fs).setW ax hw).setT (m.top + (1 + (s : Int)))) := by show _ = _; unfold MD.allocd; rw [HHW.out, HAX.out, HSL.out]
          have HBX : Hid (w0.heap.size ≤ bx) := HQ.out.1
          clear hw7 fb Q7 x0 x1 x2 x3 ex ef e3
          go_region_with ((go_at_call 49; refine (kw.out _).mono ?_; rintro ev w8 ⟨rfl, hb8⟩; have hb9 : Below w7.heap.size w7 w8 := ((Below.refl _ _).drew).trans (hb8.mono (by simp)); have t5 := (hb9.cell (p := ⟨bx, 5, none⟩) lb7).trans u5; have tf := (hb9.frozen (p := ⟨bx, 5, none⟩) lb7).trans uf))
          all_goals go_wp2_with fail
          all_goals refine (ofAddr_ok (ax : Int) (by omega) (by omega) _).mono ?_
          all_goals rintro ev w9 ⟨rfl, hb10⟩
          all_goals go_wp2_with fail
          all_goals go_ret2
          all_goals (
            have Q8 := (HQ7.out.below hb9).setT (m.top + (1 + (s : Int)))
            have hB8 : Below w0.heap.size w0 (w8.setCell ⟨bx, 5, none⟩ (.int .i64 (m.top + (1 + (s : Int))))) := (H07.out.trans (hb9.mono H07.out.size)).setCell HBX.out _
            refine .inr ⟨vs, HSH.out, HCB.out, HKD.out.1, HKD.out.2, HOR.out, by rw [← HSL.out]; exact hroom, by rw [← HAX.out]; rfl, ?_, ?_⟩
            · rw [HAL.out]; first | exact Q8.own.below hb10 | exact (Q8.own.below (Below.refl _ _).drew).below hb10
            · first | exact hB8.trans (hb10.mono hB8.size) | exact hB8.drew.trans (hb10.mono hB8.drew.size))
      · rw [decide_eq_false hr] at kr
        have kh := holdAll_any a bh m.W.length (fun i => decide (i ∈ vs)) (HSH.out.len.2.1) fs (by rw [← HSL.out]; omega) HFU.out af cf w2 (HE.out.below H02.out).we (HMK.out.heads.below HB12.out (by obtain ⟨_, h1, _⟩ := HMK.out; exact lt_of_heap h1)) (by obtain ⟨_, h1, _⟩ := HMK.out; exact Nat.lt_of_lt_of_le (lt_of_heap h1) HB12.out.size) (HRF.out.below HB3.out)
        rw [← HSL.out] at kh
        go_wp2_with fail
        refine kr.mono ?_
        rintro ev w3 ⟨rfl, hq⟩
        rw [hq]
        clear hq kr w3
        cases hal : fs.all (fieldB m.W.length (fun i => decide (i ∈ vs))) with
        | false =>
          rw [hal] at kh
          have HERR : Hid (AllocErr m kd fs 2) := .inr ⟨vs, HSH.out, .inr ⟨HCB.out, .inr ⟨HKD.out.1, HKD.out.2, .inl ⟨by omega, hal, rfl⟩⟩⟩⟩
          clear hal
          go_wp2_with fail
          refine kh.mono ?_
          rintro ev w3 ⟨rfl, hb23⟩
          have hbf := HB3.out.trans (hb23.mono HB3.out.size)
          have k2 := (HE.out.below (HB0.out.trans (hbf.mono HB0.out.size))).c2
          clear kh
          go_wp2_with fail
          go_quiet (fail)
          go_wp2_with fail
          go_ret2
          exact .inl ⟨2, HERR.out, rfl, below_drewN hbf⟩
        | true =>
          rw [hal] at kh
          have HOR : Hid (kd < 8 ∨ fs.all (fieldB m.W.length (fun i => decide (i ∈ vs))) = true) := .inr hal
          clear hal
          go_wp2_with fail
          refine kh.mono ?_
          rintro ev w3 ⟨rfl, hb23⟩
          clear kh
          have HF3 : Hid (∀ W, Below w3.heap.size w3 W → W.cell? ⟨q, 0, none⟩ = some (.int .i64 kd) ∧ W.cell? ⟨q, 1, none⟩ = some (.int .i64 0) ∧ W.cell? ⟨q, 2, none⟩ = some (.int .i64 0) ∧ W.cell? ⟨q, 3, none⟩ = some (.int .i64 (s : Int)) ∧ W.cell? ⟨bx, 0, none⟩ = some (.int .i64 m.half) ∧ W.cell? ⟨bx, 5, none⟩ = some (.int .i64 m.top)) := fun W hW => HF.out W (hb23.trans (hW.mono hb23.size))
          have H3 : Hid (Below w.heap.size w w3) := HB3.out.trans (hb23.mono HB3.out.size)
          have H03 : Hid (Below w0.heap.size w0 w3) := HB0.out.trans (H3.out.mono HB0.out.size)
          clear r0 r1 r2 r3 c0 c5 lo
          obtain ⟨r0, r1, r2, r3, c0, c5⟩ := HF3.out w3 (Below.refl _ _)
          go_upto_region 10 with fail
          by_cases hfull : m.half - m.top < 1 + (s : Int)
          · have HERR : Hid (AllocErr m kd fs 5) := .inr ⟨vs, HSH.out, .inr ⟨HCB.out, .inr ⟨HKD.out.1, HKD.out.2, .inr ⟨HOR.out, by rw [← HSL.out]; exact hfull, rfl⟩⟩⟩⟩
            go_region_held3 (fun W => W.cell? ⟨q, 0, none⟩ = some (.int .i64 kd) ∧ W.cell? ⟨q, 1, none⟩ = some (.int .i64 0) ∧ W.cell? ⟨q, 2, none⟩ = some (.int .i64 0) ∧ W.cell? ⟨q, 3, none⟩ = some (.int .i64 (s : Int)) ∧ W.cell? ⟨bx, 0, none⟩ = some (.int .i64 m.half) ∧ W.cell? ⟨bx, 5, none⟩ = some (.int .i64 m.top)) (first | go_keep | with_reducible exact HF3.out _ hb5) ((go_at_call 49; refine (kw.out _).mono ?_; rintro ev w4 ⟨rfl, hb4⟩; have hb5 : Below w3.heap.size w3 w4 := ((Below.refl _ _).drew).trans (hb4.mono (by simp))))
            all_goals have hb6 := H3.out.trans (hb5.mono H3.out.size)
            all_goals have k5 := (HE.out.below (HB0.out.trans (hb6.mono HB0.out.size))).c5
            all_goals go_wp2_with fail
            all_goals go_quiet (fail)
            all_goals go_wp2
            all_goals go_ret2
            all_goals exact .inl ⟨5, HERR.out, rfl, below_drewN hb6⟩
          · go_region_held3 (fun W => W.cell? ⟨q, 0, none⟩ = some (.int .i64 kd) ∧ W.cell? ⟨q, 1, none⟩ = some (.int .i64 0) ∧ W.cell? ⟨q, 2, none⟩ = some (.int .i64 0) ∧ W.cell? ⟨q, 3, none⟩ = some (.int .i64 (s : Int)) ∧ W.cell? ⟨bx, 0, none⟩ = some (.int .i64 m.half) ∧ W.cell? ⟨bx, 5, none⟩ = some (.int .i64 m.top)) (first | go_keep | with_reducible exact HF3.out _ hb5) ((go_at_call 49; refine (kw.out _).mono ?_; rintro ev w4 ⟨rfl, hb4⟩; have hb5 : Below w3.heap.size w3 w4 := ((Below.refl _ _).drew).trans (hb4.mono (by simp))))
            go_upto_region 12 with fail
            have hroom : m.top + 1 + (s : Int) ≤ m.half := by omega
            have H34 := H3.out.trans (hb5.mono H3.out.size)
            have H04 := H03.out.trans (hb5.mono H03.out.size)
            obtain ⟨z0, z1, z2, z3, _, z5⟩ := HF3.out w4 hb5
            have P := MD.parts HSH.out.1
            have hle := P.le HSH.out.1
            have hn0 := P.n0
            have hn1 := P.n1
            have hnb : (m.n0 : Int) ≤ m.half := by
              obtain e | e : m.used = 0 ∨ m.used = 1 := by omega
              · rw [e, Int.zero_mul] at hn0; omega
              · rw [e, Int.one_mul] at hn0; omega
            obtain ⟨n0, hn0'⟩ : ∃ n0 : Nat, n0 = m.n0 := ⟨_, rfl⟩
            obtain ⟨ax, hax⟩ : ∃ ax : Nat, ax = m.n1 := ⟨_, rfl⟩
            have HAX := toHid hax
            have hxs : ax + 1 + s < m.W.length := by omega
            have hxb : ax ≤ 300000 := by omega
            have hxl : m.W.length ≤ 300000 := HSH.out.len.2.1
            have ew : IntKind.i64.wrap ((n0 : Int) + m.top) = (ax : Int) := by rw [wrapI _ (by omega) (by omega)]; omega
            have M4 := HM.out.below H34 hbx
            have kn : Hid (∀ q, Calls Tryz.prog 50 #[.pointer (some ⟨bx, 0, none⟩)] (w4.drewN q) fun ev w' => ev = .returned (.int .i64 (n0 : Int)) ∧ ∃ n, w' = (w4.drewN q).drewN n) := fun q => by
              have k := nursery_any bx m.half m.used (by omega) (by omega) hu0 hu1 (w4.drewN q) M4.c0 M4.c4
              rw [← hn0, ← hn0'] at k
              exact k
            have HR4 := toHid H34
            have HR04 := toHid H04
            have et : IntKind.i64.wrap (m.top + (1 + (s : Int))) = m.top + (1 + (s : Int)) := wrapI _ (by omega) (by omega)
            clear hn0 hn1 hn0' hax M4 hnum hu0 hu1 hwl hnb hle P H34 H04
            go_quiet ((go_at_call 50; exact Calls.quiet_of (kn.out _)))
            obtain ⟨w5, hw5⟩ : ∃ w5, w5 = w4.drewN nq := ⟨_, rfl⟩
            rw [← hw5]
            have hb7 : Below w4.heap.size w4 w5 := by rw [hw5]; exact below_drewN (Below.refl _ _)
            clear hw5
            have hb05 := HR04.out.trans (hb7.mono HR04.out.size)
            have hbw5 := HR4.out.trans (hb7.mono HR4.out.size)
            have lo4 := lt_of_cell z0
            have y0 := (hb7.cell (p := ⟨q, 0, none⟩) lo4).trans z0
            have y1 := (hb7.cell (p := ⟨q, 1, none⟩) lo4).trans z1
            have y2 := (hb7.cell (p := ⟨q, 2, none⟩) lo4).trans z2
            have y3 := (hb7.cell (p := ⟨q, 3, none⟩) lo4).trans z3
            have Q5 := HQ.out.below hbw5
            obtain ⟨g, cap, rfl, hcap, hBg, hg5, hgx, _, hfz, _⟩ := Q5.rowW (by omega)
            obtain ⟨cur, hcur, hcl⟩ : ∃ cur : List Value, w5.heap[g]? = some (.cells cur.toArray 50 (0, 0)) ∧ cur.length = cap := by
              obtain ⟨_, _, r1, _⟩ := Q5
              rcases r1.2 with ⟨e, _⟩ | ⟨g', cap', cur', e1, _, hg2, _, _, hs2, _⟩
              · cases e
              · cases e1
                exact ⟨cur'.toList, hg2, by rw [Array.length_toList, hs2]; omega⟩
            have hgw : g < w.heap.size := by
              obtain ⟨g', cap', e1, _, _, h1, _⟩ := HQ.out.rowW (by omega)
              cases e1
              exact h1
            have d3 := Q5.mem.c3
            have HQ5 := toHid Q5
            have HCUR := toHid hcur
            have hRF := HRF.out.below hbw5
            have HRF5 := toHid hRF
            have HB05 := toHid hb05
            have lq5 := lt_of_cell y0
            have s2 : (0 : Int) ≤ (ax : Int) + 1 := by omega
            have s3 : (ax : Int) + 1 ≤ (m.W.length : Int) := by omega
            have ea : IntKind.i64.wrap ((ax : Int) + 1) = (ax : Int) + 1 := wrapI _ (by omega) (by omega)
            have hc1 : ¬ cap = ax + 1 := by omega
            have hc2 : ¬ ax + 1 = cap := by omega
            have hc3 : ¬ cap - (ax + 1) = 0 := by omega
            have hmin : (wordsV fs).length = Nat.min s (m.W.length - (ax + 1)) := by rw [lenV, ← HSL.out]; exact (Nat.min_eq_left (by omega)).symm
            have HMIN := toHid hmin
            have HPOS : Hid (0 < (wordsV fs).length → ∃ ad, af = some ad ∧ ∀ j v, (wordsV fs)[j]? = some v → w5.cell? (ad.add j) = some v) := fun h => by
              have hh : 0 < fs.length := by rw [lenV] at h; exact h
              obtain ⟨ad, e1, _, e3⟩ := (HRF5.out).src hh
              exact ⟨ad, e1, e3⟩
            clear hcur hRF hmin Q5 hfz z0 z1 z2 z3 z5 kn hb7 hb05 hbw5
            have hcl2 : (ax + 1) + (wordsV fs).length ≤ cur.length := by rw [lenV, ← HSL.out]; omega
            have HCL2 := toHid hcl2
            have hqg : q ≠ g := by have := HQ1.out; omega
            have HC6 : Hid (∀ w6, w6.heap[g]? = some (.cells (splice cur (ax + 1) (wordsV fs)).toArray 50 (0, 0)) → Apart g w5 w6 → OwnQ w0.heap.size bx (m.cop (ax + 1) fs) (.slice (some ⟨g, 0, none⟩) m.W.length cap) vR vK vI vC w6 ∧ w6.cell? ⟨bx, 3, none⟩ = some (.slice (some ⟨g, 0, none⟩) m.W.length cap) ∧ (∃ cx, w6.cell? ⟨g, ax, none⟩ = some cx) ∧ w6.frozen? ⟨g, ax, none⟩ = false ∧ w6.cell? ⟨q, 0, none⟩ = some (.int .i64 kd) ∧ w6.cell? ⟨q, 1, none⟩ = some (.int .i64 0) ∧ w6.cell? ⟨q, 2, none⟩ = some (.int .i64 0) ∧ w6.cell? ⟨q, 3, none⟩ = some (.int .i64 (s : Int))) := fun w6 hg6 ha6 => by
              have Q6 := HQ5.out.cop cur.toArray HCUR.out (ax + 1) fs (by rw [← HSL.out]; omega) hg6 ha6
              have hl : (m.cop (ax + 1) fs).W.length = m.W.length := length_splice _ _ _ (by rw [← HSL.out]; omega)
              obtain ⟨g', cap', e1, _, _, _, _, hw6, hf6, _⟩ := Q6.rowW (by rw [hl]; omega)
              rw [hl] at e1
              cases e1
              exact ⟨Q6, Q6.mem.c3, ⟨_, hw6 ax (by rw [hl]; omega)⟩, hf6 ax, (World.cell?_of_block (a := ⟨q, 0, none⟩) (ha6.block _ hqg)).trans y0, (World.cell?_of_block (a := ⟨q, 1, none⟩) (ha6.block _ hqg)).trans y1, (World.cell?_of_block (a := ⟨q, 2, none⟩) (ha6.block _ hqg)).trans y2, (World.cell?_of_block (a := ⟨q, 3, none⟩) (ha6.block _ hqg)).trans y3⟩
            have hxi : (ax : Int) < (m.W.length : Int) := by omega
            have hxi0 : (0 : Int) ≤ (ax : Int) := by omega
            clear hcl2
            go_wp2_with (refine wpList_copy_apart rfl _ _ _ _ rfl 50 Tryz.underlying26 infoU64s _ _ _ _ _ _ rfl rfl g (ax + 1) cur 50 HCUR.out (wordsV fs) HMIN.out (fun h => ⟨rfl, HPOS.out h⟩) HCL2.out (one_words fs) ?_; intro w6 hg6 ha6; obtain ⟨Q6, e3, ⟨cx, ex⟩, ef, x0, x1, x2, x3⟩ := HC6.out w6 hg6.out ha6.out; have HQ6 := toHid Q6; clear Q6 d3 y0 y1 y2 y3)
            obtain ⟨w7, hw7⟩ : ∃ w7, w7 = w6.setCell ⟨g, ax, none⟩ (.int .u64 hw) := ⟨_, rfl⟩
            rw [← hw7]
            have Q7 : OwnQ w0.heap.size bx ((m.cop (ax + 1) fs).setW ax hw) (.slice (some ⟨g, 0, none⟩) m.W.length cap) vR vK vI vC w7 := by rw [hw7]; exact HQ6.out.setW ax hw
            have H07 : Hid (Below w0.heap.size w0 w7) := by rw [hw7]; exact (ha6.out.below HB05.out hBg).setCell hBg _
            have fb : ∀ k, k ≠ g → w7.heap[k]? = w6.heap[k]? := fun k hk => by rw [hw7]; exact heap_set _ _ _ _ _ hk
            have u0 := (World.cell?_of_block (a := ⟨q, 0, none⟩) (fb _ hqg)).trans x0
            have u1 := (World.cell?_of_block (a := ⟨q, 1, none⟩) (fb _ hqg)).trans x1
            have u2 := (World.cell?_of_block (a := ⟨q, 2, none⟩) (fb _ hqg)).trans x2
            have u3 := (World.cell?_of_block (a := ⟨q, 3, none⟩) (fb _ hqg)).trans x3
            have u5 : w7.cell? ⟨bx, 5, none⟩ = some (.int .i64 m.top) := Q7.mem.c5
            have uf : w7.frozen? ⟨bx, 5, none⟩ = false := (OB.mem Q7.2.1).2 5
            have lb7 := lt_of_cell u5
            have HQ7 := toHid Q7
            have HAL : Hid (m.allocd kd fs = ((m.cop (ax + 1) fs).setW ax hw).setT (m.top + (1 + (s : Int)))) := by show _ = _; unfold MD.allocd; rw [HHW.out, HAX.out, HSL.out]
            have HBX : Hid (w0.heap.size ≤ bx) := HQ.out.1
            clear hw7 fb Q7 x0 x1 x2 x3 ex ef e3
            go_region_with ((go_at_call 49; refine (kw.out _).mono ?_; rintro ev w8 ⟨rfl, hb8⟩; have hb9 : Below w7.heap.size w7 w8 := ((Below.refl _ _).drew).trans (hb8.mono (by simp)); have t5 := (hb9.cell (p := ⟨bx, 5, none⟩) lb7).trans u5; have tf := (hb9.frozen (p := ⟨bx, 5, none⟩) lb7).trans uf))
            all_goals go_wp2_with fail
            all_goals refine (ofAddr_ok (ax : Int) (by omega) (by omega) _).mono ?_
            all_goals rintro ev w9 ⟨rfl, hb10⟩
            all_goals go_wp2_with fail
            all_goals go_ret2
            all_goals (
              have Q8 := (HQ7.out.below hb9).setT (m.top + (1 + (s : Int)))
              have hB8 : Below w0.heap.size w0 (w8.setCell ⟨bx, 5, none⟩ (.int .i64 (m.top + (1 + (s : Int))))) := (H07.out.trans (hb9.mono H07.out.size)).setCell HBX.out _
              refine .inr ⟨vs, HSH.out, HCB.out, HKD.out.1, HKD.out.2, HOR.out, by rw [← HSL.out]; exact hroom, by rw [← HAX.out]; rfl, ?_, ?_⟩
              · rw [HAL.out]; first | exact Q8.own.below hb10 | exact (Q8.own.below (Below.refl _ _).drew).below hb10
              · first | exact hB8.trans (hb10.mono hB8.size) | exact hB8.drew.trans (hb10.mono hB8.drew.size))
    · have ko := ofHead_no a kd 0 0 (s : Int) (by omega) (w1.alloc (.cells #[.int .i64 kd, .int .i64 0, .int .i64 0, .int .i64 (s : Int)] 92)) (HE.out.below (HB0.out.trans (hb1a.mono HB0.out.size))).we
      unfold errV at ko
      have HERR : Hid (AllocErr m kd fs 1) := .inr ⟨vs, HSH.out, .inr ⟨HCB.out, .inl ⟨hkd, rfl⟩⟩⟩
      clear hkd
      go_wp2_with fail
      refine ko.mono ?_
      rintro ev w2 ⟨rfl, hb2⟩
      have hb3 := hb1a.trans (hb2.mono hb1a.size)
      clear ko hb2
      go_wp2_with fail
      go_ret2
      exact .inl ⟨1, HERR.out, rfl, hb3⟩
  · have HERR : Hid (AllocErr m kd fs 4) := .inr ⟨vs, hsh, .inl ⟨hcb, rfl⟩⟩
    clear ks hsh hcb
    unfold errV
    go_wp2_with fail
    go_ret2
    exact .inl ⟨4, HERR.out, rfl, hb1⟩
  · have HERR : Hid (AllocErr m kd fs 2) := .inl ⟨hno, rfl⟩
    clear ks hno
    unfold errV
    go_wp2_with fail
    go_ret2
    exact .inl ⟨2, HERR.out, rfl, hb1⟩
end Go.Proofs.YtnenggkgfhgcnaaGreatDoor

/- Package minor: Collect of a right memory, by a contract; the closed fact still. -/
namespace Go.Proofs.YtnenggkgfhgcnaaGreatDoor
open Go.RowKit Go.Maps

theorem ColAt.mem {p bW bC cW cC : Nat} {m : MD} {vR vK vI : Value} {w : World} (h : ColAt p bW bC cW cC m vR vK vI w) : MemAt p m.half m.old m.card (.slice (some ⟨bW, 0, none⟩) m.W.length cW) m.used m.top m.oldTop vR vK vI (.slice (some ⟨bC, 0, none⟩) m.C.length cC) w := by
  have hp := h.mb
  unfold MB at hp
  constructor <;> (rw [cell_of_row _ _ _ _ _ _ hp]; rfl)
theorem rowV_ids {t : TypeId} {v : Value} {n : Nat} {xs : List Value} {w : World} (h : RowB t 2 v n xs w) : RowV w v n xs := by
  obtain ⟨ao, cap, e, hc, _, hf⟩ := h
  refine ⟨ao, cap, e, hc, fun h0 => ?_⟩
  obtain ⟨g, e2, hb⟩ := hf h0
  exact ⟨g, 0, e2, hb.lt, fun j u hj => by rw [Nat.zero_add]; exact hb.cell hj⟩
theorem ColAt.repP {p bW bC cW cC : Nat} {m : MD} {vR vK vI : Value} {w : World} (h : ColAt p bW bC cW cC m vR vK vI w) : RepP p m w :=
  ⟨_, _, _, _, _, lt_of_heap h.mb, h.mem, ⟨_, _, rfl, h.cap, fun _ => ⟨bW, rfl, h.hW.lt, fun _ _ hj => h.hW.cell hj⟩⟩, h.R, h.K, rowV_ids h.I, ⟨_, _, rfl, h.capC, fun _ => ⟨bC, rfl, h.hC.lt, fun _ _ hj => h.hC.cell hj⟩⟩⟩
theorem colAt_of {B bx : Nat} {m : MD} {w : World} (h : OwnP B bx m w) (hW : 0 < m.W.length) (hC : 0 < m.C.length) : ∃ bW bC cW cC vR vK vI, ColAt bx bW bC cW cC m vR vK vI w ∧ B ≤ bx ∧ B ≤ bW ∧ B ≤ bC := by
  obtain ⟨vW, vR, vK, vI, vC, hB, hO, r1, r2, r3, r4, r5, _⟩ := h
  obtain ⟨⟨aW, cW, rfl, hcW, _, fW⟩, nW⟩ := RowB.of_own r1
  obtain ⟨⟨aC, cC, rfl, hcC, _, fC⟩, nC⟩ := RowB.of_own r5
  obtain ⟨bW, rfl, hbW⟩ := fW hW
  obtain ⟨bC, rfl, hbC⟩ := fC hC
  exact ⟨bW, bC, cW, cC, vR, vK, vI, ⟨hO, hbW, hbC, hcW, hcC, rowV_own r2, rowV_own r3, (RowB.of_own r4).1⟩, hB, nW bW ⟨0, _, _, hW, rfl⟩, nC bC ⟨0, _, _, hC, rfl⟩⟩
theorem shape_pos {m : MD} {vs : List Nat} (S : m.Shape vs) : 0 < m.W.length ∧ 0 < m.C.length ∧ m.W.length ≤ 300000 := by
  have hn := S.1.nums
  unfold numsOK at hn
  have h1 := S.1.w
  have h2 := S.1.c
  have h3 : (1 : Int) ≤ (m.old + m.card - 1) / m.card := Int.le_ediv_of_mul_le (by omega) (by omega)
  omega
/-- What Collect answers of a right memory. -/
def NCPost (a : Nat → Addr) (p bW bC cW cC : Nat) (m : MD) (l1 l2 : List Nat) (tn : Int) (w : World) (ev : Ending) (w' : World) : Prop :=
  (¬ (0 ≤ tn ∧ tn ≤ 15) ∧ ev = .returned (errV a 1) ∧ Below w.heap.size w w') ∨ ((0 ≤ tn ∧ tn ≤ 15) ∧ m.old - m.oldTop < m.top ∧ ev = .returned (errV a 5) ∧ Below w.heap.size w w') ∨ ((0 ≤ tn ∧ tn ≤ 15) ∧ m.top ≤ m.old - m.oldTop ∧ ev = .returned .nilIface ∧ CollPost p bW bC cW cC m l1 l2 tn w w')
theorem CollPost.from {p bW bC cW cC : Nat} {m : MD} {l1 l2 : List Nat} {tn : Int} {w w1 w' : World} (hb : Below w.heap.size w w1) (h : CollPost p bW bC cW cC m l1 l2 tn w1 w') : CollPost p bW bC cW cC m l1 l2 tn w w' := by
  obtain ⟨e, n, us, S, ψ, vR, vK, vI, h1, h2, h3, h5, h4⟩ := h
  exact ⟨e, n, us, S, ψ, vR, vK, vI, h1, h2, h3, h5, (Aside.of_below hb).join h4 (fun _ _ h => h)⟩
set_option maxHeartbeats 4000000 in
set_option maxRecDepth 100000 in
theorem ncollect_any (a : Nat → Addr) (p bW bC cW cC : Nat) (m : MD) (vR vK vI : Value) (l1 l2 : List Nat) (tn : Int) (w : World) (H : ColAt p bW bC cW cC m vR vK vI w) (S : m.Shape (l1 ++ l2)) (hC : m.cardsB = true) (h64 : MD64 m) (w1 : walkP m.F (G0 m.F) (m.n1 - m.n0) m.n0 m.n1 = some l1) (w2 : walkP m.F (G0 m.F) (m.m1 - m.m0) m.m0 m.m1 = some l2)
    (hlR : m.R.length ≤ 300000) (hlK : m.K.length ≤ 300000) (hlI : m.I.length ≤ 300000) (htn : -9223372036854775808 ≤ tn ∧ tn < 9223372036854775808) (E : ∀ w', Aside (ownM p bW bC) w w' → MErr a w') :
    Calls Tryz.prog 20 #[.pointer (some ⟨p, 0, none⟩), .int .i64 tn] w fun ev w' => NCPost a p bW bC cW cC m l1 l2 tn w ev w' := by
  have E0 := E w (Aside.refl _ _)
  have kc := check_right a p m (l1 ++ l2) S hC h64 hlR hlK hlI w E0.three H.repP
  have hn := S.1.nums
  unfold numsOK at hn
  have P := MD.parts S.1
  have pn0 := P.n0
  have pm0 := P.m0
  have pm1 := P.m1
  have hu0 := S.1.u0
  have hu1 := S.1.u1
  have ht0 := S.1.t0
  have ht1 := S.1.t1
  have ho0 := S.1.o0
  have ho1 := S.1.o1
  have hMb : Hid (∀ W, Below w.heap.size w W → W.cell? ⟨p, 5, none⟩ = some (.int .i64 m.top) ∧ W.cell? ⟨p, 1, none⟩ = some (.int .i64 m.old) ∧ W.cell? ⟨p, 6, none⟩ = some (.int .i64 m.oldTop) ∧ MErr a W) := fun W hW => by
    have h := H.below hW
    exact ⟨h.mem.c5, h.mem.c1, h.mem.c6, E0.below hW⟩
  have hK : Hid (m.top ≤ m.old - m.oldTop → (0 ≤ tn ∧ tn ≤ 15) → ∀ W, Below w.heap.size w W → Calls Tryz.prog 41 #[.pointer (some ⟨p, 0, none⟩), .int .i64 tn] W fun ev w' => ev = .returned (.tuple #[]) ∧ CollPost p bW bC cW cC m l1 l2 tn w w') := fun hroom ht W hW => by
    have hus : m.used = 0 ∨ m.used = 1 := by omega
    have hprod : m.used * m.half = (m.n0 : Int) := pn0.symm
    obtain ⟨o0, hoo⟩ : ∃ o0 : Nat, (o0 : Int) = (1 - m.used) * m.half := by
      rcases hus with h | h
      · exact ⟨m.half.toNat, by rw [h]; omega⟩
      · exact ⟨0, by rw [h]; omega⟩
    obtain ⟨hi, hhi⟩ : ∃ hi : Nat, (hi : Int) = (m.n0 : Int) + m.half := ⟨((m.n0 : Int) + m.half).toNat, by omega⟩
    have hob : (o0 : Int) ≤ 65536 ∧ (m.n0 : Int) ≤ 65536 := by
      rcases hus with h | h
      · rw [h] at hoo pn0; omega
      · rw [h] at hoo pn0; omega
    refine (collect_any a p bW bC cW cC m vR vK vI l1 l2 tn o0 hi W (H.below hW) (fun e q1 q2 q3 q4 q5 q6 q7 q8 => ⟨S, h64, hC, w1, w2, q1, by rw [q2]; exact hhi, hoo, q4, q5, hroom, by rw [q3]; exact ht.1, by rw [q3]; exact ht.2, q6, q7, by rw [q6, q8]; exact H.cap⟩) hlR hlK hlI (fun w' h => (E w' ((Aside.of_below hW).join h (fun _ _ h => h))).we) ?_ ?_ ?_ ?_ ?_ ?_).mono ?_
    · rw [hprod, wrapI _ (by omega) (by omega)]
    · rw [wrapI _ (by omega) (by omega)]
    · rw [← hoo, wrapI _ (by omega) (by omega)]
    · rw [wrapI _ (by omega) (by omega)]; exact pm0.symm
    · rw [← hhi, wrapI _ (by omega) (by omega)]
    · rw [pm0, wrapI _ (by omega) (by omega)]; exact pm1.symm
    · rintro ev w' ⟨rfl, h⟩
      exact ⟨rfl, CollPost.from hW h⟩
  have e1 : IntKind.i64.wrap (m.old - m.oldTop) = m.old - m.oldTop := wrapI _ (by omega) (by omega)
  clear H S hC h64 w1 w2 E E0 hn P pn0 pm0 pm1 hu0 hu1 ht0 ht1 ho0 ho1
  by_cases ht : 0 ≤ tn ∧ tn ≤ 15
  · by_cases hroom : m.top ≤ m.old - m.oldTop
    · have t1 : ¬ tn < 0 := by omega
      have t2 : ¬ 15 < tn := by omega
      have t3 : ¬ m.old - m.oldTop < m.top := by omega
      have HKK := toHid (hK.out hroom ht)
      have HRR := toHid hroom
      have HTT := toHid ht
      clear hK hroom ht
      go_enter Tryz.func20, Tryz.ntmps20
      go_wp2_with fail
      refine kc.mono ?_
      clear kc
      rintro ev w3 ⟨rfl, b3⟩
      obtain ⟨c5, c1, c6, _⟩ := hMb.out w3 b3
      have HB3 := toHid b3
      clear b3
      go_wp2_with fail
      go_quiet (fail)
      obtain ⟨w4, hw4⟩ : ∃ w4, w4 = w3.drewN nq := ⟨_, rfl⟩
      rw [← hw4]
      have b4 : Below w.heap.size w w4 := by rw [hw4]; exact below_drewN HB3.out
      have kk := HKK.out w4 b4
      clear hw4 b4 c5 c1 c6
      go_wp2_with fail
      refine kk.mono ?_
      clear kk
      rintro ev w5 ⟨rfl, hP⟩
      have HP := toHid hP
      clear hP
      go_wp2_with fail
      go_ret
      exact Or.inr (Or.inr ⟨HTT.out, HRR.out, rfl, HP.out⟩)
    · have t1 : ¬ tn < 0 := by omega
      have t2 : ¬ 15 < tn := by omega
      have t3 : m.old - m.oldTop < m.top := by omega
      have HRR := toHid t3
      have HTT := toHid ht
      clear hK hroom ht
      go_enter Tryz.func20, Tryz.ntmps20
      go_wp2_with fail
      refine kc.mono ?_
      clear kc
      rintro ev w3 ⟨rfl, b3⟩
      obtain ⟨c5, c1, c6, E3⟩ := hMb.out w3 b3
      have hE5 := E3.c5
      have HB3 := toHid b3
      clear b3 E3
      go_wp2_with fail
      go_quiet (fail)
      go_wp2_with fail
      go_ret
      exact Or.inr (Or.inl ⟨HTT.out, HRR.out, rfl, below_drewN HB3.out⟩)
  · have HTT := toHid ht
    clear hK
    have hcase : tn < 0 ∨ (¬ tn < 0 ∧ 15 < tn) := by omega
    clear ht
    rcases hcase with t1 | ⟨t1, t2⟩
    · go_enter Tryz.func20, Tryz.ntmps20
      go_wp2_with fail
      refine kc.mono ?_
      clear kc
      rintro ev w3 ⟨rfl, b3⟩
      obtain ⟨c5, c1, c6, E3⟩ := hMb.out w3 b3
      have hE1 := E3.c1
      have HB3 := toHid b3
      clear b3 E3
      go_wp2_with fail
      go_ret
      exact Or.inl ⟨HTT.out, rfl, HB3.out⟩
    · go_enter Tryz.func20, Tryz.ntmps20
      go_wp2_with fail
      refine kc.mono ?_
      clear kc
      rintro ev w3 ⟨rfl, b3⟩
      obtain ⟨c5, c1, c6, E3⟩ := hMb.out w3 b3
      have hE1 := E3.c1
      have HB3 := toHid b3
      clear b3 E3
      go_wp2_with fail
      go_ret
      exact Or.inl ⟨HTT.out, rfl, HB3.out⟩
end Go.Proofs.YtnenggkgfhgcnaaGreatDoor

/- The closed fact still: a memory of one object to which nothing leads is collected. -/
namespace Go.Proofs.YtnenggkgfhgcnaaGreatDoor
open Go.RowKit Go.Maps

def m0S : MD := ⟨4, 5, 2, 0, 0, 0, List.replicate 13 0, [], [], [], List.replicate 3 false⟩
def m1S : MD := ⟨4, 5, 2, 0, 1, 0, 39 :: List.replicate 12 0, [], [], [], List.replicate 3 false⟩
theorem m1S_eq : m0S.allocd 9 [] = m1S := by rfl
theorem m0S_fits : m0S.FitsM := ⟨by unfold numsOK; decide, by decide, by decide, by decide, by decide, by decide, by decide, by decide, by decide⟩
theorem m1S_fits : m1S.FitsM := ⟨by unfold numsOK; decide, by decide, by decide, by decide, by decide, by decide, by decide, by decide, by decide⟩
theorem m0S_shape : m0S.Shape [] := ⟨m0S_fits, by decide, by decide, by decide⟩
theorem m1S_shape : m1S.Shape ([0] ++ []) := ⟨m1S_fits, by decide, by decide, by decide⟩
theorem m0S_64 : MD64 m0S := ⟨by unfold U64 m0S; decide, by unfold U64 m0S; decide, by unfold U64 m0S; decide, by unfold Ids64 m0S; decide⟩
theorem m1S_64 : MD64 m1S := ⟨by unfold U64 m1S; decide, by unfold U64 m1S; decide, by unfold U64 m1S; decide, by unfold Ids64 m1S; decide⟩
theorem new_own (w : World) (q : Nat) : OwnP w.heap.size w.heap.size m0S ((newW 4 5 2 13 3 w).drewN q) := by
  obtain ⟨wN, hN⟩ : ∃ wN, wN = (newW 4 5 2 13 3 w).drewN q := ⟨_, rfl⟩
  have h2 : wN.heap[w.heap.size + 2]? = some (.cells (Array.replicate 3 (.bool false)) 4) := by
    have := heap_alloc_new ((w.alloc (.cells #[.int .i64 4, .int .i64 5, .int .i64 2, .slice (some ⟨w.heap.size + 1, 0, none⟩) 13 13, .int .i64 0, .int .i64 0, .int .i64 0, .slice none 0 0, .slice none 0 0, .slice none 0 0, .slice (some ⟨w.heap.size + 2, 0, none⟩) 3 3] 55)).alloc (.cells (Array.replicate 13 (.int .u64 0)) 50)) (.cells (Array.replicate 3 (.bool false)) 4)
    rw [hN]
    show (newW 4 5 2 13 3 w).heap[w.heap.size + 2]? = _
    unfold newW
    simpa using this
  have h1 : wN.heap[w.heap.size + 1]? = some (.cells (Array.replicate 13 (.int .u64 0)) 50) := by
    have := heap_alloc_new (w.alloc (.cells #[.int .i64 4, .int .i64 5, .int .i64 2, .slice (some ⟨w.heap.size + 1, 0, none⟩) 13 13, .int .i64 0, .int .i64 0, .int .i64 0, .slice none 0 0, .slice none 0 0, .slice none 0 0, .slice (some ⟨w.heap.size + 2, 0, none⟩) 3 3] 55)) (.cells (Array.replicate 13 (.int .u64 0)) 50)
    rw [hN]
    show (newW 4 5 2 13 3 w).heap[w.heap.size + 1]? = _
    unfold newW
    rw [heap_alloc_old _ _ _ (by simp)]
    simpa using this
  have h0 : wN.heap[w.heap.size]? = some (.cells #[.int .i64 4, .int .i64 5, .int .i64 2, .slice (some ⟨w.heap.size + 1, 0, none⟩) 13 13, .int .i64 0, .int .i64 0, .int .i64 0, .slice none 0 0, .slice none 0 0, .slice none 0 0, .slice (some ⟨w.heap.size + 2, 0, none⟩) 3 3] 55) := by
    rw [hN]
    show (newW 4 5 2 13 3 w).heap[w.heap.size]? = _
    unfold newW
    rw [heap_alloc_old _ _ _ (by simp; omega), heap_alloc_old _ _ _ (by simp)]
    exact heap_alloc_new _ _
  rw [← hN]
  refine ⟨.slice (some ⟨w.heap.size + 1, 0, none⟩) 13 13, .slice none 0 0, .slice none 0 0, .slice none 0 0, .slice (some ⟨w.heap.size + 2, 0, none⟩) 3 3, Nat.le_refl _, h0, ?_, ⟨rfl, .inl ⟨rfl, rfl⟩⟩, ⟨rfl, .inl ⟨rfl, rfl⟩⟩, ⟨rfl, .inl ⟨rfl, rfl⟩⟩, ?_, ?_, ?_, ?_⟩
  · exact ⟨rfl, .inr ⟨w.heap.size + 1, 13, _, rfl, by omega, h1, Nat.le_refl _, by unfold maxLen; decide, by simp, by rfl⟩⟩
  · exact ⟨rfl, .inr ⟨w.heap.size + 2, 3, _, rfl, by omega, h2, Nat.le_refl _, by unfold maxLen; decide, by simp, by rfl⟩⟩
  · intro v hv
    simp only [List.mem_cons, List.not_mem_nil, or_false] at hv
    rcases hv with rfl | rfl | rfl | rfl | rfl <;> simp [Value.ownBlock]
  · intro v hv g hg
    simp only [List.mem_cons, List.not_mem_nil, or_false] at hv
    simp [Value.ownBlock] at hg
    rcases hv with rfl | rfl | rfl | rfl <;> simp [Value.ownBlock]
    omega
  · intro v hv g hg
    simp only [List.mem_cons, List.not_mem_nil, or_false] at hv
    simp [Value.ownBlock] at hg
    rcases hv with rfl | rfl | rfl | rfl <;> simp [Value.ownBlock]
    omega
set_option maxHeartbeats 4000000 in
set_option maxRecDepth 100000 in
theorem still_any (a : Nat → Addr) (w : World) (E : MErr a w) : Calls Tryz.prog 7 #[] w fun ev w' => ev = .returned (.bool true) ∧ Below w.heap.size w w' := by
  have HE := toHid E
  have kn := new_ok 4 5 2 (by unfold numsOK; decide) 13 3 (by decide) (by decide) w
  clear E
  go_enter Tryz.func7, Tryz.ntmps7
  go_wp2_with fail
  refine kn.mono ?_
  clear kn
  rintro ev w1 ⟨rfl, q, hw1⟩
  have O1 : OwnP w.heap.size w.heap.size m0S w1 := by rw [hw1]; exact new_own w q
  have b1 : Below w.heap.size w w1 := by rw [hw1]; unfold newW; exact below_drewN ((((Below.refl _ _).alloc (Nat.le_refl _) _).alloc (by simp) _).alloc (by simp; omega) _)
  have ka := alloc_any a w w.heap.size m0S m0S_64 (by decide) (by decide) (by decide) 9 [] (by unfold U64; simp) (by decide) none 0 w1 HE.out b1 O1 ⟨none, 0, rfl, Nat.le_refl _, fun h => absurd h (by decide)⟩
  obtain ⟨bx, hbx⟩ : ∃ bx, bx = w.heap.size := ⟨_, rfl⟩
  rw [← hbx] at ka O1
  rw [← hbx]
  have HBX := toHid hbx
  clear O1 b1 hw1 hbx
  go_wp2_with fail
  refine ka.mono ?_
  clear ka
  rintro ev w2 (⟨k, hk, rfl, _⟩ | ⟨vs, _, _, _, _, _, _, rfl, O2, b2⟩)
  · exfalso
    rcases hk with ⟨h, _⟩ | ⟨vs, _, ⟨h, _⟩ | ⟨_, ⟨h, _⟩ | ⟨_, _, ⟨_, h, _⟩ | ⟨_, h, _⟩⟩⟩⟩
    · exact h _ m0S_shape
    · exact absurd h (by decide)
    · exact h ⟨by decide, by decide⟩
    · exact absurd h (by simp)
    · exact absurd h (by decide)
  · rw [m1S_eq] at O2
    obtain ⟨bW, bC, cW, cC, vR, vK, vI, hCA, l0, l1, l2⟩ := colAt_of O2 (by decide) (by decide)
    have kc := ncollect_any a bx bW bC cW cC m1S vR vK vI [0] [] 1 w2 hCA m1S_shape (by decide) m1S_64 (by decide) (by decide) (by decide) (by decide) (by decide) (by decide) (fun w' h => HE.out.below (b2.trans (h.below b2.size (fun k hk hx => by
      rcases hx with h | h | h <;> omega))))
    have hn1 : m0S.n1 = 0 := by decide
    rw [hn1]
    have HB2 := toHid b2
    clear O2 hCA b2 hn1
    go_wp2_with fail
    refine kc.mono ?_
    clear kc
    rintro ev w3 (⟨h, _⟩ | ⟨_, h, _⟩ | ⟨_, _, rfl, e, n, us, S, ψ, vR', vK', vI', _, hN, hCo, hz, ha⟩)
    · exact absurd ⟨by decide, by decide⟩ h
    · exact absurd h (by decide)
    · have t0 : n.top = 0 := hz rfl rfl
      have u0 : n.used = 1 := hCo.used
      have c5 : w3.cell? ⟨bx, 5, none⟩ = some (.int .i64 0) := by rw [← t0]; exact hN.mem.c5
      have c4 : w3.cell? ⟨bx, 4, none⟩ = some (.int .i64 1) := by rw [← u0]; exact hN.mem.c4
      have HB3 : Hid (Below w.heap.size w w3) := HB2.out.trans (ha.below HB2.out.size (fun k hk hx => by
        rcases hx with h | h | h <;> omega))
      clear t0 u0 hN hCo hz ha
      go_wp2_with fail
      go_ret
      exact ⟨rfl, HB3.out⟩
end Go.Proofs.YtnenggkgfhgcnaaGreatDoor

/- GraphOf of any right memory, by a walk. -/
namespace Go.Proofs.YtnenggkgfhgcnaaGreatDoor
open Go.RowKit

theorem fieldB_tells {nH : Nat} {hb : Nat → Bool} {x : Int} (hn : nH ≤ 300000) (h : fieldB nH hb x = true) : (x % 4 = 2 → x / 4 ≤ 2) ∧ x % 4 ≠ 3 ∧ (x / 4 ≤ 1099511627776 ∨ x % 4 = 1) := by
  unfold fieldB at h
  by_cases c1 : x % 4 = 1
  · exact ⟨fun h => by omega, by omega, Or.inr c1⟩
  · rw [if_neg c1] at h
    by_cases c2 : x % 4 = 2
    · rw [if_pos c2] at h
      have := of_decide_eq_true h
      exact ⟨fun _ => this, by omega, Or.inl (by omega)⟩
    · rw [if_neg c2] at h
      rcases Bool.or_eq_true_iff.1 h with h | h
      · have e := eq_of_beq h
        subst e
        exact ⟨fun h => by omega, by omega, Or.inl (by decide)⟩
      · unfold ptrB at h
        simp only [Bool.and_eq_true, decide_eq_true_eq] at h
        exact ⟨fun h => by omega, by omega, Or.inl (by omega)⟩
theorem gLines_size {s : ByteArray} (hs : s.size = 5) {out : List Nat} (hn : out.length ≤ 300000) : ∀ (l : List Int) (A : ByteArray), (gLines s out A l).size ≤ A.size + l.length * 28
  | [], A => by simp [gLines]
  | x :: l, A => by
    have h1 := gLines_size hs hn l (gLine s out A x)
    have h2 := tellB_size out hn x
    have h3 : (gLine s out A x).size ≤ A.size + 28 := by
      unfold gLine
      rw [ByteArray.size_append, ByteArray.size_append, ByteArray.size_append, hs]
      show _ + 1 ≤ _
      omega
    show (gLines s out (gLine s out A x) l).size ≤ _
    rw [List.length_cons]
    omega
def MD.textA (m : MD) (vs : List Nat) : ByteArray := gObjsP m.F (m.reach vs) (gLines sRoot (m.reach vs) ⟨#[]⟩ m.R) (m.reach vs).length
def MD.textB (m : MD) (vs : List Nat) : ByteArray := gIds (m.reach vs) (gLines sWeak (m.reach vs) ⟨#[]⟩ m.K) (ordI m.I)
set_option maxHeartbeats 4000000 in
set_option maxRecDepth 100000 in
theorem graphOf_any (p o : Nat) (m : MD) (vs : List Nat) (hS : m.Shape vs) (h64 : MD64 m) (bR : m.R.length ≤ 300000) (bK : m.K.length ≤ 300000) (bI : m.I.length ≤ 300000) (w : World) (R : RepM p o m w) :
    Calls Tryz.prog 16 #[.pointer (some ⟨p, o, none⟩)] w fun ev w' => ev = .returned (.tuple #[.string (m.textA vs), .string (m.textB vs)]) ∧ Below w.heap.size w w' := by
  have kr := reached_any p o m vs hS h64 bR w R
  have hU := reach_outs hS h64
  have hol := hU.len
  have hfew := hS.few
  unfold MD.textA MD.textB
  obtain ⟨rr, hrr⟩ : ∃ rr, rr = m.reach vs := ⟨_, rfl⟩
  rw [← hrr] at kr hol hU
  rw [← hrr]
  have hrl : rr.length ≤ 300000 := by omega
  have hwl := (shape_len hS).2.1
  have hfine : ∀ f ∈ rr, szN (m.F f) ≤ 4096 := fun f hf => by
    obtain ⟨hfh, hfl⟩ := hS.fine f (hU.sub f hf)
    have hr := md_range h64 f (by omega)
    unfold headB at hfh
    have := of_decide_eq_true hfh
    unfold szN
    omega
  obtain ⟨rR, rK, rI⟩ := hS.rest'
  have tR : Tells m.R := ⟨h64.r, fun x hx => (fieldB_tells hwl (rR x hx)).1, bR⟩
  have tK : Tells m.K := ⟨h64.k, fun x hx => (fieldB_tells hwl (rK x hx)).1, bK⟩
  have hT : ObjsT m.F rr m.W.length := ⟨fun f hf => hS.fine f (hU.sub f hf), md_range h64, fun f hf hkd x hx => by
    obtain ⟨j, hj⟩ := List.mem_iff_getElem?.1 hx
    have hl := (List.getElem?_eq_some_iff.1 hj).1
    rw [fieldsP_len] at hl
    rw [fieldsP_at hl] at hj
    cases hj
    exact (fieldB_tells hwl (hS.held (hU.sub f hf) hl hkd)).1⟩
  have hok := ids_ok rI
  obtain ⟨_, vR, vK, vI, vC, hp, M, ⟨aW, cW, rfl, hcW, fW⟩, wR, wK, wI, _⟩ := R
  obtain ⟨bW, oW, rfl, lb, gW⟩ := fW (shape_len hS).1
  obtain ⟨aR, cR, rfl, _, _⟩ := id wR
  obtain ⟨aK, cK, rfl, _, _⟩ := id wK
  obtain ⟨aI, cI, rfl, _, _⟩ := id wI
  have mem1 : ∀ i, i < m.W.length → w.cell? ⟨bW, oW + i, none⟩ = some (.int .u64 (m.F i)) := fun i hi => gW i _ (words_at (by unfold MD.F; rw [List.getD_eq_getElem?_getD, List.getElem?_eq_getElem hi]; rfl))
  have HM3 := toHid M.c3
  have HM7 := toHid M.c7
  have HM8 := toHid M.c8
  have HM9 := toHid M.c9
  have HWR := toHid wR
  have HWK := toHid wK
  have HWI := toHid wI
  have HMEM := toHid mem1
  have HTR := toHid tR
  have HTK := toHid tK
  have HT := toHid hT
  have HOK := toHid hok
  have H6 := toHid h64.i
  have hsR : sRoot.size = 5 := rfl
  have hsW : sWeak.size = 5 := rfl
  have hz0 : (ByteArray.mk #[]).size = 0 := rfl
  have hsz1 := gLines_size hsR hrl m.R ⟨#[]⟩
  have hsz2 := gLines_size hsW hrl m.K ⟨#[]⟩
  have HSZ1 : Hid ((gLines sRoot rr ⟨#[]⟩ m.R).size ≤ 10000000000) := by show _ ≤ _; omega
  have HSZ2 : Hid ((gLines sWeak rr ⟨#[]⟩ m.K).size ≤ 10000000000) := by show _ ≤ _; omega
  clear hS h64 hU hrr M wR wK wI gW fW mem1 tR tK hT hok rR rK rI hfine hsR hsW hz0 hsz1 hsz2 lb hp hcW
  go_enter Tryz.func16, Tryz.ntmps16
  go_wp2_with fail
  refine kr.mono ?_
  rintro ev w1 ⟨oo, oc, rfl, hL, hb1⟩
  have HL := toHid hL
  have HB1 := toHid hb1
  clear kr hL hb1
  go_upto_block 0 with fail
  refine graph_b0 (a0 := ⟨#[]⟩) (F := m.F) hrl HTR.out (by decide) ((HB1.out.cell (p := ⟨p, o + 7, none⟩) (lt_of_cell HM7.out)).trans HM7.out) (RowV.below HWR.out HB1.out) HL.out ?_
  intro v19 v20 v21 v22 v23 v24 v25 v26 v27 v28 v29 v30 v31 v32 v33 v34 v35 v36 v37 v38 v39 v40 v6 wa hba
  have HBa := toHid (HB1.out.trans (hba.mono HB1.out.size))
  have HLa := toHid (RowV.below HL.out hba)
  clear hba
  go_upto_block 2 with fail
  refine graph_b2 (F := m.F) hrl (by have := HSZ1.out; omega) hwl HT.out ((HBa.out.cell (p := ⟨p, o + 3, none⟩) (lt_of_cell HM3.out)).trans HM3.out) (fun i hi => (HBa.out.cell (p := ⟨bW, oW + i, none⟩) (lt_of_cell (HMEM.out i hi))).trans (HMEM.out i hi)) HLa.out ?_
  intro v41 v42 v43 v44 v45 v46 v47 v48 v49 v50 v51 v52 v53 v54 v55 v56 v57 v58 v59 v60 v61 v62 v63 v64 v65 v66 v67 v68 v69 v70 v71 v72 v73 v74 v75 v76 v77 v78 v79 v80 v81 v82 v83 v84 v85 v86 v87 v88 v89 v90 v91 v92 v7 v8 v9 v10 wb hbb
  have HBb := toHid (HBa.out.trans (hbb.mono HBa.out.size))
  have HLb := toHid (RowV.below HLa.out hbb)
  clear hbb
  obtain ⟨tA, htA⟩ : ∃ tA, tA = gObjsP m.F rr (gLines sRoot rr ⟨#[]⟩ m.R) rr.length := ⟨_, rfl⟩
  rw [← htA]
  have HTA := toHid htA
  clear htA
  go_upto_block 6 with fail
  refine graph_b6 (a0 := ⟨#[]⟩) (F := m.F) hrl HTK.out (by decide) ((HBb.out.cell (p := ⟨p, o + 8, none⟩) (lt_of_cell HM8.out)).trans HM8.out) (RowV.below HWK.out HBb.out) HLb.out ?_
  intro v93 v94 v95 v96 v97 v98 v99 v100 v101 v102 v103 v104 v105 v106 v107 v108 v109 v110 v111 v112 v113 v114 v12 wc hbc
  have HBc := toHid (HBb.out.trans (hbc.mono HBb.out.size))
  have HLc := toHid (RowV.below HLb.out hbc)
  clear hbc
  obtain ⟨tB, htB⟩ : ∃ tB, tB = gLines sWeak rr ⟨#[]⟩ m.K := ⟨_, rfl⟩
  rw [← htB] at HSZ2
  rw [← htB]
  have HTB := toHid htB
  clear htB
  go_upto_block 8 with fail
  refine graph_b8 (F := m.F) (m0 := tB) hrl H6.out HOK.out bI (by have := HSZ2.out; omega) ((HBc.out.cell (p := ⟨p, o + 9, none⟩) (lt_of_cell HM9.out)).trans HM9.out) (RowV.below HWI.out HBc.out) HLc.out ?_
  intro v115 v116 v117 v118 v119 v120 v121 v122 v123 v124 v125 v126 v127 v128 v129 v130 v131 v132 v133 v134 v135 v136 v137 v138 v139 v140 v141 v142 v143 v144 v145 v146 v147 v148 v149 v150 v151 v152 v153 v154 v155 v156 v157 v158 v159 v160 v161 v162 v163 v164 v165 v166 v167 v168 v169 v170 v171 v172 v173 v174 v175 v176 v177 v178 v179 v180 v181 v182 v183 v184 v185 v186 v187 v188 v189 v190 v191 v192 v11 v13 v14 v15 v16 wd hbd
  have HBd := toHid (HBc.out.trans (hbd.mono HBc.out.size))
  clear hbd
  go_ret2
  exact ⟨by rw [← HTA.out, ← HTB.out]; rfl, HBd.out⟩
end Go.Proofs.YtnenggkgfhgcnaaGreatDoor

/- Two memories whose objects are the same, at other places: their texts are the same, plainly. -/

namespace Go.Proofs.YtnenggkgfhgcnaaGreatDoor
open Go.RowKit

variable {F G : Nat → Int} {S : Nat → Prop} {φ : Nat → Nat}
theorem gLines_iso (hi : ∀ f g, S f → S g → φ f = φ g → f = g) (hf : ∀ f, S f → φ f < 1099511627776) {out : List Nat} (ho : ∀ g ∈ out, S g) (s : ByteArray) : ∀ {l : List Int} {acc : ByteArray}, (∀ x ∈ l, PtIn S x) → gLines s (out.map φ) acc (l.map (mvI φ)) = gLines s out acc l
  | [], _, _ => rfl
  | x :: l, acc, hl => by
    show gLines s (out.map φ) (gLine s (out.map φ) acc (mvI φ x)) (l.map (mvI φ)) = gLines s out (gLine s out acc x) l
    have e : gLine s (out.map φ) acc (mvI φ x) = gLine s out acc x := by unfold gLine; rw [tell_iso hi hf ho (hl x (by simp))]
    rw [e]
    exact gLines_iso hi hf ho s (fun y hy => hl y (by simp [hy]))
theorem gFields_iso (hi : ∀ f g, S f → S g → φ f = φ g → f = g) (hf : ∀ f, S f → φ f < 1099511627776) {out : List Nat} (ho : ∀ g ∈ out, S g) {kd : Int} (hk : ¬ kd < 8) : ∀ {l : List Int} {acc : ByteArray}, (∀ x ∈ l, PtIn S x) → gFields kd (out.map φ) acc (l.map (mvI φ)) = gFields kd out acc l
  | [], _, _ => rfl
  | x :: l, acc, hl => by
    show gFields kd (out.map φ) (gField kd (out.map φ) acc (mvI φ x)) (l.map (mvI φ)) = gFields kd out (gField kd out acc x) l
    have e : gField kd (out.map φ) acc (mvI φ x) = gField kd out acc x := by unfold gField; rw [if_neg hk, if_neg hk, tell_iso hi hf ho (hl x (by simp))]
    rw [e]
    exact gFields_iso hi hf ho hk (fun y hy => hl y (by simp [hy]))
theorem gFields_raw {out out' : List Nat} {kd : Int} (hk : kd < 8) : ∀ {l : List Int} {acc : ByteArray}, gFields kd out' acc l = gFields kd out acc l
  | [], _ => rfl
  | x :: l, acc => by
    show gFields kd out' (gField kd out' acc x) l = gFields kd out (gField kd out acc x) l
    have e : gField kd out' acc x = gField kd out acc x := by unfold gField; rw [if_pos hk, if_pos hk]
    rw [e]
    exact gFields_raw hk
theorem Iso.objT (h : Iso F G S φ) {out : List Nat} (ho : ∀ g ∈ out, S g) {f : Nat} (hf : S f) (i : Nat) (acc : ByteArray) : gObjT G (out.map φ) i (φ f) acc = gObjT F out i f acc := by
  unfold gObjT
  rw [h.kind f hf, h.fields hf]
  by_cases hk : F f / 4 % 256 < 8
  · rw [if_pos hk, gFields_raw (out := out) hk]
  · rw [if_neg hk, gFields_iso h.inj h.few ho hk (h.ptIn hf hk)]
theorem Iso.objs (h : Iso F G S φ) {out : List Nat} (ho : ∀ g ∈ out, S g) (acc : ByteArray) : ∀ k, gObjsP G (out.map φ) acc k = gObjsP F out acc k
  | 0 => rfl
  | k + 1 => by
    unfold gObjsP
    rw [List.getElem?_map]
    cases e : out[k]? with
    | none => exact h.objs ho acc k
    | some f =>
      show gObjT G (out.map φ) k (φ f) (gObjsP G (out.map φ) acc k) = gObjT F out k f (gObjsP F out acc k)
      rw [h.objs ho acc k]
      exact h.objT ho (ho f (List.mem_of_getElem? e)) k _
/-- What can be come to is the same, at other places. -/
theorem reach_same {m n : MD} {vs us : List Nat} (Sm : m.Shape vs) (h6 : MD64 m) (Sn : n.Shape us) (h6n : MD64 n) (I : Iso m.F n.F S φ) (hR : n.R = m.R.map (mvI φ)) (hr : ∀ x ∈ m.R, PtIn S x) :
    n.reach us = (m.reach vs).map φ ∧ ∀ g ∈ m.reach vs, S g := by
  have hm := reachP_more (Sm.reachy h6) (us.length + 1) (vs.length + 1) (comesP [] m.R) 0 ((outs_nil vs).comes (Sm.roots h6)) (by omega)
  have hn := reachP_more (Sn.reachy h6n) (vs.length + 1) (us.length + 1) (comesP [] n.R) 0 ((outs_nil us).comes (Sn.roots h6n)) (by omega)
  obtain ⟨e, hS⟩ := comes_iso I.inj I.few (l := m.R) (out := []) (by simp) hr
  obtain ⟨e2, hS2⟩ := I.reach (vs.length + 1 + (us.length + 1)) (comesP [] m.R) 0 hS
  unfold MD.reach
  rw [hm] at e2 hS2
  refine ⟨?_, hS2⟩
  rw [← hn, hR, ← e2, Nat.add_comm (us.length + 1)]
  rw [show comesP [] (m.R.map (mvI φ)) = (comesP [] m.R).map φ from e]
/-- The lines of roots and of objects. -/
def MD.mainText (m : MD) (vs : List Nat) : ByteArray := gObjsP m.F (m.reach vs) (gLines sRoot (m.reach vs) ⟨#[]⟩ m.R) (m.reach vs).length
theorem main_same {m n : MD} {vs us : List Nat} (I : Iso m.F n.F S φ) (hR : n.R = m.R.map (mvI φ)) (hr : ∀ x ∈ m.R, PtIn S x) (he : n.reach us = (m.reach vs).map φ) (hs : ∀ g ∈ m.reach vs, S g) : n.mainText us = m.mainText vs := by
  unfold MD.mainText
  rw [he, hR, gLines_iso I.inj I.few hs sRoot hr, I.objs hs, List.length_map]
/-- How many words of it there are. -/
def liveP (F : Nat → Int) (l : List Nat) : Nat := (l.map fun f => 1 + szN (F f)).sum
theorem live_same (I : Iso F G S φ) {l : List Nat} (hs : ∀ g ∈ l, S g) : liveP G (l.map φ) = liveP F l := by
  unfold liveP
  rw [List.map_map]
  congr 1
  refine List.map_congr_left fun f hf => ?_
  show 1 + szN (G (φ f)) = _
  rw [I.size f (hs f hf)]
end Go.Proofs.YtnenggkgfhgcnaaGreatDoor

/- The law MinorGrows: what holds behind each collection, plainly. -/
namespace Go.Proofs.YtnenggkgfhgcnaaGreatDoor
open Go.RowKit Go.Maps

/-- The lines of roots and objects are the same behind a collection. -/
theorem Coll.text {e : CE} {m n : MD} {l1 l2 us : List Nat} {S : Nat → Prop} {ψ : Nat → Nat} (h : Coll e m n l1 l2 us S ψ) (Sm : m.Shape (l1 ++ l2)) (h64 : MD64 m) : n.textA us = m.textA (l1 ++ l2) := by
  obtain ⟨h1, h2⟩ := reach_same Sm h64 h.shape h.h64 h.iso h.roots h.rin
  exact main_same h.iso h.roots h.rin h1 h2
theorem Coll.ilen {e : CE} {m n : MD} {l1 l2 us : List Nat} {S : Nat → Prop} {ψ : Nat → Nat} (h : Coll e m n l1 l2 us S ψ) : n.I.length ≤ m.I.length := by
  obtain ⟨c, e1, _⟩ := h.ids
  rw [e1, List.length_map]
  exact List.length_filter_le _ _
theorem shape_c {m : MD} {vs : List Nat} (S : m.Shape vs) : m.C.length ≤ 300000 := by
  have hn := S.1.nums
  unfold numsOK at hn
  have h2 := S.1.c
  have h3 : (m.old + m.card - 1) / m.card ≤ m.old + m.card - 1 := Int.ediv_le_self _ (by omega)
  omega
/-- An object that lies in the nursery. -/
theorem young_lt {m : MD} {vs l1 : List Nat} (S : m.Shape vs) (w1 : walkP m.F (G0 m.F) (m.n1 - m.n0) m.n0 m.n1 = some l1) {t : Nat} (ht : t ∈ l1) : (t : Int) < 2 * m.half := by
  have h := walkP_lt w1 t ht
  have P := MD.parts S.1
  have p1 := P.n1
  have u0 := S.1.u0
  have u1 := S.1.u1
  have t1 := S.1.t1
  have hu : m.used = 0 ∨ m.used = 1 := by omega
  rcases hu with hu | hu
  · rw [hu] at p1; omega
  · rw [hu] at p1; omega
theorem old_ge {m : MD} {vs l2 : List Nat} (S : m.Shape vs) (w2 : walkP m.F (G0 m.F) (m.m1 - m.m0) m.m0 m.m1 = some l2) {t : Nat} (ht : t ∈ l2) : 2 * m.half ≤ (t : Int) := by
  have h := walkP_lt w2 t ht
  have P := MD.parts S.1
  have p1 := P.m0
  omega
/-- A memory that is being collected again and again. -/
structure GrowI (m : MD) (vs : List Nat) (bx bW bC cW cC : Nat) (tn : Int) (i : Nat) (w2 : World) (mi : MD) (l1 l2 : List Nat) (vR vK vI : Value) (w : World) : Prop where
  at' : ColAt bx bW bC cW cC mi vR vK vI w
  S : mi.Shape (l1 ++ l2)
  cards : mi.cardsB = true
  h64 : MD64 mi
  k1 : walkP mi.F (G0 mi.F) (mi.n1 - mi.n0) mi.n0 mi.n1 = some l1
  k2 : walkP mi.F (G0 mi.F) (mi.m1 - mi.m0) mi.m0 mi.m1 = some l2
  R : mi.R.length ≤ 300000
  K : mi.K.length ≤ 300000
  I : mi.I.length ≤ 300000
  text : mi.textA (l1 ++ l2) = m.textA vs
  age : ∀ f ∈ l1, (i : Int) ≤ mi.F f / 1024 % 16
  top : tn + 1 ≤ (i : Int) → mi.top = 0
  below : Below w2.heap.size w2 w
  xx : w2.heap.size ≤ bx
  xW : w2.heap.size ≤ bW
  xC : w2.heap.size ≤ bC
/-- The same, whatever it is by now. -/
def GrowS (m : MD) (vs : List Nat) (bx bW bC cW cC : Nat) (tn : Int) (i : Nat) (w2 w : World) : Prop := ∃ mi l1 l2 vR vK vI, GrowI m vs bx bW bC cW cC tn i w2 mi l1 l2 vR vK vI w
theorem GrowI.step {m : MD} {vs : List Nat} {bx bW bC cW cC : Nat} {tn : Int} {i : Nat} {w2 : World} {mi : MD} {l1 l2 : List Nat} {vR vK vI : Value} {w w' : World} (h : GrowI m vs bx bW bC cW cC tn i w2 mi l1 l2 vR vK vI w) (hp : CollPost bx bW bC cW cC mi l1 l2 tn w w') : GrowS m vs bx bW bC cW cC tn (i + 1) w2 w' := by
  obtain ⟨e, n, us, S, ψ, vR', vK', vI', htn, hN, hC, _, ha⟩ := hp
  obtain ⟨l1', l2', hus, g1, g2⟩ := hC.shape.bare
  have Sn := hC.shape
  rw [hus] at Sn
  refine ⟨n, l1', l2', vR', vK', vI', hN, Sn, hC.cards, hC.h64, g1, g2, ?_, ?_, ?_, ?_, fun t ht => ?_, fun hi => ?_, ?_, h.xx, h.xW, h.xC⟩
  · rw [hC.roots, List.length_map]; exact h.R
  · rw [hC.klen]; exact h.K
  · have := hC.ilen; have := h.I; omega
  · rw [← hus, hC.text h.S h.h64]; exact h.text
  · obtain ⟨f, hf, hft⟩ := hC.out t (by rw [hus]; exact List.mem_append.2 (Or.inl ht))
    have hlt := young_lt Sn g1 ht
    rw [hC.half] at hlt
    rcases List.mem_append.1 (hC.in' f hf).1 with hfl | hfl
    · obtain ⟨y1, y2⟩ := hC.young f hf hfl
      have := h.age f hfl
      have h3 := y2 (y1.1 (by rw [hft]; exact hlt))
      rw [hft] at h3
      rw [h3]
      omega
    · have h1 := (hC.old f hfl).2
      have h2 := old_ge h.S h.k2 hfl
      rw [hft] at h1
      omega
  · refine hC.none (fun f hf => ?_)
    have := h.age f hf
    rw [htn]
    omega
  · exact h.below.trans (ha.below h.below.size (fun k hk hx => by
      have := h.xx; have := h.xW; have := h.xC
      rcases hx with h | h | h <;> omega))
theorem GrowI.start {m : MD} {vs l1 l2 : List Nat} {bx bW bC cW cC : Nat} {tn : Int} {w2 : World} {vR vK vI : Value} {w : World} (hv : vs = l1 ++ l2) (at' : ColAt bx bW bC cW cC m vR vK vI w) (S : m.Shape vs) (cards : m.cardsB = true) (h64 : MD64 m) (w1 : walkP m.F (G0 m.F) (m.n1 - m.n0) m.n0 m.n1 = some l1) (g2 : walkP m.F (G0 m.F) (m.m1 - m.m0) m.m0 m.m1 = some l2) (R : m.R.length ≤ 300000) (K : m.K.length ≤ 300000) (I : m.I.length ≤ 300000) (h0 : 0 ≤ tn) (below : Below w2.heap.size w2 w) (hx : w2.heap.size ≤ bx) (hW : w2.heap.size ≤ bW) (hC : w2.heap.size ≤ bC) : GrowI m vs bx bW bC cW cC tn 0 w2 m l1 l2 vR vK vI w :=
  ⟨at', by rw [← hv]; exact S, cards, h64, w1, g2, R, K, I, by rw [hv], fun f _ => Int.emod_nonneg _ (by decide), fun h => by omega, below, hx, hW, hC⟩
end Go.Proofs.YtnenggkgfhgcnaaGreatDoor

/- A memory with more roots: it is as right, and what is come to is the same behind a collection, plainly. -/
namespace Go.Proofs.YtnenggkgfhgcnaaGreatDoor
open Go.RowKit Go.Maps

/-- A memory with these roots besides. -/
def MD.more (m : MD) (ws : List Int) : MD := { m with R := m.R ++ ws }
theorem more_nil (m : MD) : m.more [] = m := by unfold MD.more; rw [List.append_nil]
theorem more_more (m : MD) (ws us : List Int) : (m.more ws).more us = m.more (ws ++ us) := by unfold MD.more; rw [List.append_assoc]
theorem more_shape {m : MD} {vs : List Nat} {ws : List Int} (S : m.Shape vs) (h : ∀ x ∈ ws, fieldB m.W.length (fun i => decide (i ∈ vs)) x = true) : (m.more ws).Shape vs := by
  obtain ⟨h1, h2, h3, h4⟩ := S
  refine ⟨h1, h2, h3, ?_⟩
  unfold MD.restB at h4 ⊢
  rw [Bool.and_eq_true] at h4 ⊢
  refine ⟨?_, h4.2⟩
  show (m.R ++ ws).all _ = true
  rw [List.all_append, Bool.and_eq_true]
  exact ⟨h4.1, List.all_eq_true.2 h⟩
theorem more_64 {m : MD} {ws : List Int} (h : MD64 m) (hw : U64 ws) : MD64 (m.more ws) := by
  refine ⟨h.w, fun x hx => ?_, h.k, h.i⟩
  rcases List.mem_append.1 hx with hx | hx
  · exact h.r x hx
  · exact hw x hx
/-- A word's object is there still, and has followed. -/
theorem Coll.field {e : CE} {m n : MD} {l1 l2 us : List Nat} {S : Nat → Prop} {ψ : Nat → Nat} (h : Coll e m n l1 l2 us S ψ) (Sm : m.Shape (l1 ++ l2)) {x : Int} (hb : fieldB m.W.length (fun i => decide (i ∈ l1 ++ l2)) x = true) (hp : PtIn S x) : fieldB n.W.length (fun i => decide (i ∈ us)) (mvI ψ x) = true := by
  have hl : n.W.length = m.W.length := by
    have h1 := h.shape.1.w
    have h2 := Sm.1.w
    rw [h.half, h.hold] at h1
    omega
  rw [hl]
  refine fieldB_mv (fun f hf => ⟨(h.in' f hf).2, ?_⟩) hb hp (fun v hv => ?_)
  · have := (h.shape.fine _ (h.in' f hf).2).2; omega
  · have := (Sm.fine v hv).2
    have := (shape_pos Sm).2.2
    omega
theorem mvI_range {S : Nat → Prop} {ψ : Nat → Nat} (hf : ∀ f, S f → ψ f < 1099511627776) {x : Int} (hx : 0 ≤ x ∧ x < 18446744073709551616) (hp : PtIn S x) : 0 ≤ mvI ψ x ∧ mvI ψ x < 18446744073709551616 := by
  by_cases h : 0 ≤ ptI x
  · have := hf _ (hp h)
    unfold mvI
    rw [if_pos h]
    omega
  · rw [mv_no h]; exact hx
/-- Is an object come to? -/
def ledB (m : MD) (vs : List Nat) (x : Int) : Bool := decide (0 ≤ ptI x) && decide (0 ≤ objI (m.reach vs) (ptI x))
theorem Coll.led {e : CE} {m n : MD} {l1 l2 us : List Nat} {S : Nat → Prop} {ψ : Nat → Nat} (h : Coll e m n l1 l2 us S ψ) (Sm : m.Shape (l1 ++ l2)) (h64 : MD64 m) {x : Int} (hl : ledB m (l1 ++ l2) x = true) : S (ptI x).toNat := by
  unfold ledB at hl
  rw [Bool.and_eq_true] at hl
  have h1 := of_decide_eq_true hl.1
  have h2 := of_decide_eq_true hl.2
  obtain ⟨v, hv, e1⟩ := objI_pos.1 h2
  have hs := (reach_same Sm h64 h.shape h.h64 h.iso h.roots h.rin).2 v hv
  have : (ptI x).toNat = v := by omega
  rw [this]; exact hs
/-- Those of the first weak references that are kept. -/
def keptW (m n : MD) : Nat → List Int
  | 0 => []
  | i + 1 => keptW m n i ++ (if m.K.getD i 0 % 4 = 0 ∧ m.K.getD i 0 ≠ 0 ∧ n.K.getD i 0 ≠ 2 then [m.K.getD i 0] else [])
theorem keptW_len (m n : MD) : ∀ i, (keptW m n i).length ≤ i
  | 0 => Nat.le_refl _
  | i + 1 => by
    unfold keptW
    rw [List.length_append]
    have := keptW_len m n i
    split <;> simp <;> omega
end Go.Proofs.YtnenggkgfhgcnaaGreatDoor
