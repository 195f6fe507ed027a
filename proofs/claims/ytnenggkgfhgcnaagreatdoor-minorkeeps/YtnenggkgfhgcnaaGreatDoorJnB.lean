/- Package minor: a copier in memory; its parts' room, a header, by contracts. -/
import Derived.Test.YtnenggkgfhgcnaaGreatDoorJnA
import Derived.Test.YtnenggkgfhgcnaaGreatDoorJoA
import Derived.Test.YtnenggkgfhgcnaaGreatDoorJoD
import Derived.Laws.CopyOwn
import Derived.Deep.RegionHeld3
import Derived.Test.YtnenggkgfhgcnaaGreatDoorJnT
namespace Go.Proofs.YtnenggkgfhgcnaaGreatDoor
open Go.RowKit Go.Maps

/-- What a copier goes through: words, cards, where objects went, how far both parts are. -/
structure CS where
  W : List Int
  C : List Bool
  φ : Nat → Option Nat
  yd : Nat
  yt : Nat
  gd : Nat
  gt : Nat
/-- What stays: where things lie, a memory's numbers. -/
structure CE where
  q : Nat
  p : Nat
  bm : Nat
  bW : Nat
  bC : Nat
  cW : Nat
  cC : Nat
  lo : Nat
  hi : Nat
  tn : Int
  half : Int
  old : Int
  card : Int
  used : Int
  top : Int
  oldTop : Int
  nW : Nat
  nC : Nat
  vR : Value
  vK : Value
  vI : Value
def CE.copier (e : CE) (s : CS) : Array Value := #[.pointer (some ⟨e.p, 0, none⟩), .int .i64 (e.lo : Int), .int .i64 (e.hi : Int), .map (some e.bm), .int .i64 e.tn, .int .i64 (s.yd : Int), .int .i64 (s.yt : Int), .int .i64 (s.gd : Int), .int .i64 (s.gt : Int)]
/-- A copier in memory. -/
structure CopAt (e : CE) (s : CS) (w : World) : Prop where
  hq : w.heap[e.q]? = some (.cells (e.copier s) 132)
  hp : MB e.p e.half e.old e.card e.used e.top e.oldTop (.slice (some ⟨e.bW, 0, none⟩) e.nW e.cW) e.vR e.vK e.vI (.slice (some ⟨e.bC, 0, none⟩) e.nC e.cC) w
  hW : Blk e.bW 50 (wordsV s.W) w
  hC : Blk e.bC 4 (boolsV s.C) w
  hm : ∃ n D, n ≤ s.yt + s.gt ∧ w.ownsMap Tryz.prog 3 (plainElem Tryz.prog 3) e.bm n D ∧ Went D s.φ
/-- The blocks that a copier writes. -/
def CE.own (e : CE) (k : Nat) : Prop := k = e.q ∨ k = e.bm ∨ k = e.bW ∨ k = e.bC
theorem CopAt.below {e : CE} {s : CS} {w w' : World} (h : CopAt e s w) (hb : Below w.heap.size w w') : CopAt e s w' := by
  obtain ⟨n, D, hn, hm, hW⟩ := h.hm
  exact ⟨(hb.block _ (lt_of_heap h.hq)).trans h.hq, (hb.block _ (lt_of_heap h.hp)).trans h.hp, h.hW.below hb, h.hC.below hb, n, D, hn, hm.kept (grown_of_below hb) (by simp), hW⟩
theorem CopAt.cells {e : CE} {s : CS} {w : World} (h : CopAt e s w) : w.cell? ⟨e.q, 0, none⟩ = some (.pointer (some ⟨e.p, 0, none⟩)) ∧ w.cell? ⟨e.q, 1, none⟩ = some (.int .i64 (e.lo : Int)) ∧ w.cell? ⟨e.q, 2, none⟩ = some (.int .i64 (e.hi : Int)) ∧ w.cell? ⟨e.q, 3, none⟩ = some (.map (some e.bm)) ∧ w.cell? ⟨e.q, 4, none⟩ = some (.int .i64 e.tn) ∧ w.cell? ⟨e.q, 5, none⟩ = some (.int .i64 (s.yd : Int)) ∧ w.cell? ⟨e.q, 6, none⟩ = some (.int .i64 (s.yt : Int)) ∧ w.cell? ⟨e.q, 7, none⟩ = some (.int .i64 (s.gd : Int)) ∧ w.cell? ⟨e.q, 8, none⟩ = some (.int .i64 (s.gt : Int)) ∧ w.cell? ⟨e.p, 3, none⟩ = some (.slice (some ⟨e.bW, 0, none⟩) e.nW e.cW) := by
  refine ⟨?_, ?_, ?_, ?_, ?_, ?_, ?_, ?_, ?_, ?_⟩
  iterate 9 (rw [cell_of_row _ _ _ _ _ _ h.hq]; rfl)
  rw [cell_of_row _ _ _ _ _ _ h.hp]; rfl
set_option maxHeartbeats 1000000 in
theorem take_part (q j : Nat) (top n : Int) (h0 : 0 ≤ top) (h1 : top ≤ 300000) (n0 : 0 ≤ n) (n1 : n ≤ 300000) (w : World) (c : w.cell? ⟨q, j + 1, none⟩ = some (.int .i64 top)) (fz : w.frozen? ⟨q, j + 1, none⟩ = false) :
    Calls Tryz.prog 139 #[.pointer (some ⟨q, j, none⟩), .int .i64 n] w fun ev w' => ev = .returned (.int .i64 top) ∧ w' = w.setCell ⟨q, j + 1, none⟩ (.int .i64 (top + n)) := by
  go_enter Tryz.func139, Tryz.ntmps139
  go_wp2_with fail
  go_ret
  exact ⟨rfl, rfl⟩
theorem chead_results (tmps : Array Value) (W : World) (b : Nat) (v0 v1 v2 v3 : Value) (h2 : tmps[4]?.getD undef = .pointer (some ⟨b, 0, none⟩)) (c0 : W.cell? ⟨b, 0, none⟩ = some v0) (c1 : W.cell? ⟨b, 1, none⟩ = some v1) (c2 : W.cell? ⟨b, 2, none⟩ = some v2) (c3 : W.cell? ⟨b, 3, none⟩ = some v3) :
    (results Tryz.f123 tmps).run Tryz.prog W = .ok (.agg #[v0, v1, v2, v3]) W := by
  simp [results, Tryz.results123, go_sem, h2, c0, c1, c2, c3]
set_option maxHeartbeats 1000000 in
set_option maxRecDepth 100000 in
theorem chead_any (e : CE) (s : CS) (f : Nat) (x : Int) (w : World) (H : CopAt e s w) (hx : s.W[f]? = some x) (hf : f < e.nW) (h0 : 0 ≤ x) (h1 : x < 18446744073709551616) (hh : headB x = true) :
    Calls Tryz.prog 123 #[.pointer (some ⟨e.q, 0, none⟩), .int .i64 (f : Int)] w fun ev w' => ev = .returned (headV x) ∧ Below w.heap.size w w' := by
  obtain ⟨e1, e2, e3⟩ := of_decide_eq_true hh
  have kt := fun w => toHead_ok x h0 h1 e1 e2 e3 w
  obtain ⟨w1, hw1⟩ : ∃ w1, w1 = w.alloc (.cells #[.int .i64 0, .int .i64 0, .int .i64 0, .int .i64 0] 92) := ⟨_, rfl⟩
  have b1 : Below w.heap.size w w1 := by rw [hw1]; exact (Below.refl _ _).alloc (Nat.le_refl _) _
  have n1 : w1.heap[w.heap.size]? = some (.cells #[.int .i64 0, .int .i64 0, .int .i64 0, .int .i64 0] 92) := by rw [hw1]; exact heap_alloc_new _ _
  have H1 := H.below b1
  obtain ⟨c0, _, _, _, _, _, _, _, _, c3⟩ := H1.cells
  have cx : w1.cell? ⟨e.bW, f, none⟩ = some (.int .u64 x) := H1.hW.cell (wordsV_at hx)
  have hI : (f : Int) < (e.nW : Int) := by omega
  have hI0 : (0 : Int) ≤ (f : Int) := by omega
  unfold headV
  obtain ⟨q, hq⟩ : ∃ q, q = e.q := ⟨_, rfl⟩
  obtain ⟨p, hp⟩ : ∃ p, p = e.p := ⟨_, rfl⟩
  obtain ⟨bW, hbW⟩ : ∃ bW, bW = e.bW := ⟨_, rfl⟩
  obtain ⟨nW, hnW⟩ : ∃ nW, nW = e.nW := ⟨_, rfl⟩
  obtain ⟨cW, hcW⟩ : ∃ cW, cW = e.cW := ⟨_, rfl⟩
  rw [← hq] at c0 ⊢
  rw [← hp] at c0 c3
  rw [← hbW] at c3 cx
  rw [← hnW] at c3 hI
  rw [← hcW] at c3
  have HW1 := toHid hw1
  have HB1 := toHid b1
  have HN1 := toHid n1
  obtain ⟨k, hk⟩ : ∃ k, k = x / 4 % 256 := ⟨_, rfl⟩
  obtain ⟨ag, hag⟩ : ∃ ag, ag = x / 1024 % 16 := ⟨_, rfl⟩
  obtain ⟨mk, hmk⟩ : ∃ mk, mk = x / 16384 % 2 := ⟨_, rfl⟩
  obtain ⟨sz, hsz⟩ : ∃ sz, sz = x / 65536 := ⟨_, rfl⟩
  simp only [← hk, ← hag, ← hmk, ← hsz] at kt ⊢
  clear hq hp hbW hnW hcW H hx e1 e2 e3 hh hf H1 hw1 b1 n1 hk hag hmk hsz
  go_enter Tryz.func123, Tryz.ntmps123
  go_upto_region 1 with fail
  rw [← HW1.out]
  obtain ⟨r, hr⟩ : ∃ r, r = w.heap.size := ⟨_, rfl⟩
  rw [← hr] at HN1 HB1 ⊢
  have HR := toHid hr
  clear hr
  go_wp2_with fail
  refine (kt _).mono ?_
  clear kt
  rintro ev w2 ⟨rfl, b2⟩
  clear c0 c3 cx
  go_upto_region 2 with fail
  obtain ⟨w3, hw3⟩ : ∃ w3, w3 = w2.alloc (.cells #[.int .i64 k, .int .i64 ag, .int .i64 mk, .int .i64 sz] 92) := ⟨_, rfl⟩
  have b3 : Below w1.heap.size w1 w3 := by rw [hw3]; exact b2.alloc b2.size _
  have n3 : w3.heap[w2.heap.size]? = some (.cells #[.int .i64 k, .int .i64 ag, .int .i64 mk, .int .i64 sz] 92) := by rw [hw3]; exact heap_alloc_new _ _
  have n1 := (b3.block _ (lt_of_heap HN1.out)).trans HN1.out
  have hrs : r ≤ w1.heap.size := by have := HB1.out.size; have := HR.out; omega
  have HB3 := toHid (HB1.out.trans (b3.mono hrs))
  obtain ⟨r0, r1, r2, r3, rf⟩ := head_block n1
  obtain ⟨s0, s1, s2, s3, _⟩ := head_block n3
  have rf0 := rf 0
  have rf1 := rf 1
  have rf2 := rf 2
  have rf3 := rf 3
  rw [← hw3]
  clear hw3 b3 n3 n1 rf hrs b2 HN1
  go_wp2_with fail
  obtain ⟨t0, t1, t2, t3⟩ := set4_cells r0 r1 r2 r3 (.int .i64 k) (.int .i64 ag) (.int .i64 mk) (.int .i64 sz)
  refine bodyPost_ret (chead_results _ _ r _ _ _ _ rfl t0 t1 t2 t3) rfl ?_
  have h := HB3.out
  have e := HR.out
  rw [← e]
  exact ⟨rfl, set4_below h (Nat.le_refl _) _ _ _ _⟩
end Go.Proofs.YtnenggkgfhgcnaaGreatDoor

/- Package minor: what a copy of an object makes of a copier, plainly; copy as a step. -/
namespace Go.Proofs.YtnenggkgfhgcnaaGreatDoor
open Go.RowKit Go.Maps

/-- A header's word with another age. -/
def hdW (x g : Int) : Int := x / 65536 * 65536 + x / 16384 % 2 * 16384 + g * 1024 + x / 4 % 256 * 4 + 3
/-- An object's words, at another place, with another age. -/
def layW (W : List Int) (f at' : Nat) (x g : Int) : List Int := (splice W at' ((W.drop f).take (1 + szN x))).set at' (hdW x g)
/-- An object is copied to the young ones. -/
def CS.young (s : CS) (f : Nat) (x : Int) : CS := { s with W := layW s.W f s.yt x (x / 1024 % 16 + 1), φ := upd s.φ f s.yt, yt := s.yt + (1 + szN x) }
/-- An object is copied to the grown ones. -/
def CS.grown (s : CS) (f : Nat) (x : Int) : CS := { s with W := layW s.W f s.gt x 0, φ := upd s.φ f s.gt, gt := s.gt + (1 + szN x) }
theorem step_copy_aside {P : Program} {ops : Array Oper} {o : Oper} {a : Act} {w : World} {K : Act → World → Prop} {Q : Exit → Act → World → Prop} {E : Prop} (hgd : o.guard = none) (d s : Operand) (dT sT : TypeId)
    (ho : o.op = .call { callee := .builtin .copy, args := #[d, s], argTypes := #[dT, sT] }) (elem : TypeId) (hu : P.underlying dT = some (.slice elem)) (hsz : (P.info? elem).map (·.size) = some 1)
    (ad : Addr) (dLen dCap sLen sCap : Nat) (g off : Nat) (hd : a.eval d = .slice (some ⟨g, off, none⟩) dLen dCap) (hs : a.eval s = .slice (some ad) sLen sCap)
    (cur : List Value) (t : TypeId) (hg : Blk g t cur w) (cs : List Value) (hn : cs.length = Nat.min sLen dLen)
    (hsrc : ∀ j v, cs[j]? = some v → w.cell? (ad.add j) = some v)
    (hfit : off + cs.length ≤ cur.length) (h1 : ∀ v ∈ cs, v.oneCell' = true)
    (h : ∀ w', Hid (Blk g t (splice cur off cs) w') → Hid (Aside (· = g) w w') → K (a.put o.dst (goInt cs.length)) w') :
    if Region.wanted o (yielded ops a.tmps) = true then Oper.wp P o a w K Q else E := by
  have hw : Region.wanted o (yielded ops a.tmps) = true := by simp [Region.wanted, hgd]
  rw [if_pos hw]
  obtain ⟨rest, hg⟩ := hg
  have e : splice (cur ++ rest) off cs = splice cur off cs ++ rest := by
    unfold splice
    rw [List.take_append_of_le_length (by omega), List.drop_append_of_le_length hfit, List.append_assoc, List.append_assoc]
  have hrun := run_copy_row (P := P) w dT sT o.type elem g off dLen dCap ad sLen sCap (cur ++ rest).toArray t cs hu hsz hg hn hsrc (by simp; omega) h1
  unfold Oper.wp
  simp [execOp, ho, resolve, invoke, builtin, hd, hs, hrun, Result.andThen]
  refine h _ ⟨rest, ?_⟩ ⟨rfl, rfl, rfl, by simp [World.setRow], fun k _ hk => setRow_other w g k _ hk⟩
  rw [← e]
  simpa [splice] using setRow_heap w g _ _ t _ hg
theorem wordsV_splice (L cs : List Int) (off : Nat) : splice (wordsV L) off (wordsV cs) = wordsV (splice L off cs) := by
  unfold splice wordsV
  rw [List.map_append, List.map_append, List.map_take, List.map_drop, List.length_map]
theorem CopAt.ne {e : CE} {s : CS} {w : World} (h : CopAt e s w) : e.q ≠ e.p ∧ e.q ≠ e.bm ∧ e.q ≠ e.bW ∧ e.q ≠ e.bC ∧ e.p ≠ e.bm ∧ e.p ≠ e.bW ∧ e.p ≠ e.bC ∧ e.bm ≠ e.bW ∧ e.bm ≠ e.bC ∧ e.bW ≠ e.bC := by
  obtain ⟨n, D, _, ⟨es, clock, hb, _⟩, _⟩ := h.hm
  obtain ⟨r1, hW⟩ := h.hW
  obtain ⟨r2, hC⟩ := h.hC
  have hp := h.hp
  unfold MB at hp
  refine ⟨?_, ?_, ?_, ?_, ?_, ?_, ?_, ?_, ?_, ?_⟩ <;> intro e1
  · rw [← e1] at hp; have := h.hq.symm.trans hp; simp at this
  · rw [← e1] at hb; have := h.hq.symm.trans hb; simp at this
  · rw [← e1] at hW; have := h.hq.symm.trans hW; simp at this
  · rw [← e1] at hC; have := h.hq.symm.trans hC; simp at this
  · rw [← e1] at hb; have := hp.symm.trans hb; simp at this
  · rw [← e1] at hW; have := hp.symm.trans hW; simp at this
  · rw [← e1] at hC; have := hp.symm.trans hC; simp at this
  · rw [← e1] at hW; have := hb.symm.trans hW; simp at this
  · rw [← e1] at hC; have := hb.symm.trans hC; simp at this
  · rw [← e1] at hC; have := hW.symm.trans hC; simp at this
theorem CopAt.aside {X : Nat → Prop} {e : CE} {s : CS} {w w' : World} (h : CopAt e s w) (ha : Aside X w w') (hx : ∀ k, (k = e.q ∨ k = e.p ∨ k = e.bm ∨ k = e.bW ∨ k = e.bC) → ¬ X k) : CopAt e s w' := by
  obtain ⟨n, D, hn, hm, hW⟩ := h.hm
  exact ⟨(ha.block _ (lt_of_heap h.hq) (hx _ (by simp))).trans h.hq, (ha.block _ (lt_of_heap h.hp) (hx _ (by simp))).trans h.hp, h.hW.aside ha (hx _ (by simp)), h.hC.aside ha (hx _ (by simp)), n, D, hn, ownsMap_aside hm ha (hx _ (by simp)), hW⟩
theorem CopAt.setYt {e : CE} {s : CS} {w : World} (h : CopAt e s w) (n : Nat) : CopAt e { s with yt := s.yt + n } (w.setCell ⟨e.q, 6, none⟩ (.int .i64 ((s.yt : Int) + (n : Int)))) := by
  obtain ⟨n1, n2, n3, n4, n5, n6, n7, n8, n9, n10⟩ := h.ne
  obtain ⟨k, D, hn, hm, hW⟩ := h.hm
  have ha : Aside (· = e.q) w (w.setCell ⟨e.q, 6, none⟩ (.int .i64 ((s.yt : Int) + (n : Int)))) := (Aside.refl (fun k => k = e.q) w).setCell (g := e.q) rfl _
  refine ⟨?_, (ha.block _ (lt_of_heap h.hp) n1.symm).trans h.hp, h.hW.aside ha n3.symm, h.hC.aside ha n4.symm, k, D, ?_, ownsMap_aside hm ha n2.symm, hW⟩
  · rw [heap_set_same h.hq]
    show some (Obj.cells _ _ _) = some (Obj.cells _ _ _)
    unfold CE.copier
    simp
  · show k ≤ s.yt + n + s.gt
    omega
theorem CopAt.setGt {e : CE} {s : CS} {w : World} (h : CopAt e s w) (n : Nat) : CopAt e { s with gt := s.gt + n } (w.setCell ⟨e.q, 8, none⟩ (.int .i64 ((s.gt : Int) + (n : Int)))) := by
  obtain ⟨n1, n2, n3, n4, n5, n6, n7, n8, n9, n10⟩ := h.ne
  obtain ⟨k, D, hn, hm, hW⟩ := h.hm
  have ha : Aside (· = e.q) w (w.setCell ⟨e.q, 8, none⟩ (.int .i64 ((s.gt : Int) + (n : Int)))) := (Aside.refl (fun k => k = e.q) w).setCell (g := e.q) rfl _
  refine ⟨?_, (ha.block _ (lt_of_heap h.hp) n1.symm).trans h.hp, h.hW.aside ha n3.symm, h.hC.aside ha n4.symm, k, D, ?_, ownsMap_aside hm ha n2.symm, hW⟩
  · rw [heap_set_same h.hq]
    show some (Obj.cells _ _ _) = some (Obj.cells _ _ _)
    unfold CE.copier
    simp
  · show k ≤ s.yt + (s.gt + n)
    omega
theorem CopAt.words {e : CE} {s : CS} {w w' : World} (h : CopAt e s w) (ha : Aside (· = e.bW) w w') (W : List Int) (hW : Blk e.bW 50 (wordsV W) w') : CopAt e { s with W := W } w' := by
  obtain ⟨n1, n2, n3, n4, n5, n6, n7, n8, n9, n10⟩ := h.ne
  obtain ⟨k, D, hn, hm, hw⟩ := h.hm
  exact ⟨(ha.block _ (lt_of_heap h.hq) n3).trans h.hq, (ha.block _ (lt_of_heap h.hp) n6).trans h.hp, hW, h.hC.aside ha n10.symm, k, D, hn, ownsMap_aside hm ha n8, hw⟩
end Go.Proofs.YtnenggkgfhgcnaaGreatDoor

/- Package minor: an object is copied out (copyOut), by a contract. -/
namespace Go.Proofs.YtnenggkgfhgcnaaGreatDoor
open Go.RowKit Go.Maps

theorem infoU64m : (Tryz.prog.info? 50).map (·.size) = some 1 := by kernel_rfl
set_option maxHeartbeats 4000000 in
set_option maxRecDepth 100000 in
theorem copyOut_grown (e : CE) (s : CS) (f : Nat) (x : Int) (w : World) (H : CopAt e s w) (hx : s.W[f]? = some x) (hl : s.W.length = e.nW) (hn : e.nW ≤ 300000) (hcw : e.nW ≤ e.cW) (hU : U64 s.W) (hh : headB x = true) (hfit : f + (1 + szN x) ≤ e.nW) (hroom : s.gt + (1 + szN x) ≤ e.nW) (hyt : s.yt ≤ 300000) (hgt : s.gt ≤ 300000) (hage : e.tn ≤ x / 1024 % 16) :
    Calls Tryz.prog 122 #[.pointer (some ⟨e.q, 0, none⟩), .int .u64 (((f : Int) + 1) * 4)] w fun ev w' => ev = .returned (.tuple #[]) ∧ CopAt e (s.grown f x) w' ∧ Aside e.own w w' := by
  obtain ⟨x0, x1⟩ := hU x (List.mem_of_getElem? hx)
  have hff : f < e.nW := by omega
  have kt := toAddr_ok (((f : Int) + 1) * 4) (by omega) (by omega) (by omega) w
  rw [show (((f : Int) + 1) * 4) / 4 - 1 = (f : Int) by omega] at kt
  have kh := fun w1 (b1 : Below w.heap.size w w1) => chead_any e s f x w1 (H.below b1) hx hff x0 x1 hh
  unfold headV at kh
  obtain ⟨hq1, hq2, hq3, hq4, hq5, hq6, hq7, hq8, hq9, hq10⟩ := H.ne
  obtain ⟨E1, E2, E3⟩ := of_decide_eq_true hh
  obtain ⟨n, hnn⟩ : ∃ n : Nat, n = 1 + szN x := ⟨_, rfl⟩
  have hsz : x / 65536 = (szN x : Int) := by unfold szN; omega
  have hnI : 1 + x / 65536 = (n : Int) := by omega
  obtain ⟨k, hk⟩ : ∃ k, k = x / 4 % 256 := ⟨_, rfl⟩
  obtain ⟨ag, hag⟩ : ∃ ag, ag = x / 1024 % 16 := ⟨_, rfl⟩
  obtain ⟨mk, hmk⟩ : ∃ mk, mk = x / 16384 % 2 := ⟨_, rfl⟩
  obtain ⟨sz, hszz⟩ : ∃ sz, sz = x / 65536 := ⟨_, rfl⟩
  have HNEW : Hid (s.grown f x = { s with W := (splice s.W s.gt ((s.W.drop f).take n)).set s.gt (sz * 65536 + mk * 16384 + (0) * 1024 + k * 4 + 3), φ := upd s.φ f s.gt, gt := s.gt + n }) := by
    show _ = _
    unfold CS.grown layW hdW
    simp only [hk, hmk, hszz, hnn]
  simp only [← hk, ← hag, ← hmk, ← hszz] at kh hnI hage hsz
  have gk0 : 0 ≤ k ∧ k ≤ 255 := by omega
  have ga0 : 0 ≤ ag ∧ ag ≤ 15 := by omega
  have gm0 : 0 ≤ mk ∧ mk ≤ 1 := by omega
  have gs0 : 0 ≤ sz ∧ sz ≤ 4096 := by omega
  have ko := fun w => ofHead_ok k (0) mk sz gk0.1 gk0.2 (by omega) (by omega) gm0.1 gm0.2 gs0.1 gs0.2 w
  obtain ⟨hw, hhw⟩ : ∃ hw, hw = sz * 65536 + mk * 16384 + (0) * 1024 + k * 4 + 3 := ⟨_, rfl⟩
  rw [← hhw] at ko HNEW
  clear hhw
  have hn1 : 1 ≤ n := by omega
  have hnb : n ≤ 4097 := by omega
  rw [← hnn] at hfit hroom
  have HH := toHid H
  have HKH := toHid kh
  have HX := toHid hx
  have HNI := toHid hnI
  have HL := toHid hl
  clear kh hk hag hmk hszz hsz hnn hnI E1 E2 E3 H hx hU hh x0 x1 hl
  obtain ⟨q, hq⟩ : ∃ q, q = e.q := ⟨_, rfl⟩
  rw [← hq]
  have HQ := toHid hq
  clear hq
  go_enter Tryz.func122, Tryz.ntmps122
  go_wp2_with fail
  refine kt.mono ?_
  clear kt
  rintro ev w1 ⟨rfl, b1⟩
  have kh := HKH.out w1 b1
  rw [← HQ.out] at kh
  have HB1 := toHid b1
  clear b1
  go_wp2_with fail
  refine kh.mono ?_
  clear kh
  rintro ev w2 ⟨rfl, b2⟩
  go_upto_region 2 with fail
  obtain ⟨w3, hw3⟩ : ∃ w3, w3 = w2.alloc (.cells #[.int .i64 k, .int .i64 ag, .int .i64 mk, .int .i64 sz] 92) := ⟨_, rfl⟩
  obtain ⟨bo, hbo⟩ : ∃ bo, bo = w2.heap.size := ⟨_, rfl⟩
  have b3 : Below w.heap.size w w3 := by rw [hw3]; exact (HB1.out.trans (b2.mono HB1.out.size)).alloc (HB1.out.trans (b2.mono HB1.out.size)).size _
  have n3 : w3.heap[bo]? = some (.cells #[.int .i64 k, .int .i64 ag, .int .i64 mk, .int .i64 sz] 92) := by rw [hw3, hbo]; exact heap_alloc_new _ _
  have hbw : w.heap.size ≤ bo := by rw [hbo]; exact (HB1.out.trans (b2.mono HB1.out.size)).size
  rw [← hw3, ← hbo]
  obtain ⟨o0, o1, o2, o3, of'⟩ := head_block n3
  have of1 := of' 1
  have H3 := HH.out.below b3
  obtain ⟨c0, c1, c2, c3, c4, c5, c6, c7, c8, m3⟩ := H3.cells
  rw [← HQ.out] at c0 c1 c2 c3 c4 c5 c6 c7 c8
  have fz : ∀ o, w3.frozen? ⟨q, o, none⟩ = false := fun o => by have h := H3.hq; rw [← HQ.out] at h; simp [World.frozen?, h]
  have HN3 := toHid n3
  have HB3 := toHid b3
  have HFZ := toHid fz
  have HH3 := toHid H3
  have HBW := toHid hbw
  clear hw3 hbo b3 n3 of' H3 b2 HB1 hbw fz
  have hsI : IntKind.i64.wrap (1 + sz) = (n : Int) := by rw [HNI.out, IntKind.wrap_i64]; omega
  go_wp2_with fail
  go_quiet (fail)
  obtain ⟨w4, hw4⟩ : ∃ w4, w4 = (w3.drewN nq).setCell ⟨bo, 1, none⟩ (.int .i64 (0)) := ⟨_, rfl⟩
  have hne : ∀ k, (k = e.q ∨ k = e.p ∨ k = e.bm ∨ k = e.bW ∨ k = e.bC) → ¬ k = bo := fun k hk => by
    have h1 := lt_of_heap HH.out.hq
    have h2 := lt_of_heap HH.out.hp
    have h3 := HH.out.hW.lt
    have h4 := HH.out.hC.lt
    obtain ⟨_, _, _, hm, _⟩ := HH.out.hm
    have h5 := hm.lt
    have h6 := HBW.out
    omega
  have a4 : Aside (· = bo) w3 w4 := by rw [hw4]; exact (Aside.of_below (X := fun k => k = bo) (below_drewN (Below.refl _ _))).setCell (g := bo) rfl _
  have H4 := HH3.out.aside a4 hne
  have n4 : w4.heap[bo]? = some (.cells #[.int .i64 k, .int .i64 (0), .int .i64 mk, .int .i64 sz] 92) := by rw [hw4]; exact (heap_set_same HN3.out)
  have A4 : Aside (fun k => k = e.q ∨ k = e.bW) w w4 := ⟨a4.os.trans HB3.out.os, a4.tape.trans HB3.out.tape, a4.output.trans HB3.out.output, Nat.le_trans HB3.out.size a4.size, fun k hk _ => (a4.block k (Nat.lt_of_lt_of_le hk HB3.out.size) (fun e => by have := HBW.out; have e' : k = bo := e; omega)).trans (HB3.out.block k hk)⟩
  go_upto_region 7 with fail
  rw [← hw4]
  obtain ⟨d0, d1, d2, d3, d4, d5, d6, d7, d8, dm⟩ := H4.cells
  have fz4 : w4.frozen? ⟨e.q, 7 + 1, none⟩ = false := by have h := H4.hq; simp [World.frozen?, h]
  have kp := take_part e.q 7 (s.gt : Int) (n : Int) (by omega) (by omega) (by omega) (by omega) w4 d8 fz4
  rw [← HQ.out] at kp
  have HH4 := toHid H4
  have HN4 := toHid n4
  have HA4 := toHid A4
  clear hw4 a4 H4 n4 A4 d0 d1 d2 d3 d4 d5 d6 d7 d8 dm c0 c1 c2 c3 c4 c5 c6 c7 c8 m3 o0 o1 o2 o3 of1 fz4 HN3 HB3 HFZ HH3
  go_wp2_with fail
  refine kp.mono ?_
  clear kp
  rintro ev w5 ⟨rfl, hw5⟩
  rw [HQ.out] at hw5
  have H5 : CopAt e { s with gt := s.gt + n } w5 := by rw [hw5]; exact HH4.out.setGt n
  have hqb : ¬ e.q = bo := hne _ (Or.inl rfl)
  have n5 : w5.heap[bo]? = some (.cells #[.int .i64 k, .int .i64 (0), .int .i64 mk, .int .i64 sz] 92) := by rw [hw5]; exact (heap_set _ _ _ _ _ (fun e => hqb e.symm)).trans HN4.out
  have A5 : Hid (Aside (fun k => k = e.q ∨ k = e.bW) w w5) := by rw [hw5]; exact HA4.out.setCell (Or.inl rfl) _
  have HH5 := toHid H5
  have HN5 := toHid n5
  clear hw5 H5 n5 HH4 HN4 HA4
  go_upto_region 8 with fail
  obtain ⟨d0, d1, d2, d3, d4, d5, d6, d7, d8, dm⟩ := HH5.out.cells
  rw [← HQ.out] at d0
  have HS5 : Hid (w5.drew.cell? ⟨q, 0, none⟩ = some (.pointer (some ⟨e.p, 0, none⟩)) ∧ w5.drew.cell? ⟨e.p, 3, none⟩ = some (.slice (some ⟨e.bW, 0, none⟩) e.nW e.cW)) := ⟨d0, dm⟩
  have s1 : ((s.gt : Int)) ≤ (e.nW : Int) := by omega
  have s2 : ¬ e.cW = s.gt := by omega
  have s3 : ¬ s.gt = e.cW := by omega
  have s4 : ¬ e.cW - s.gt = 0 := by omega
  obtain ⟨fn, hfn⟩ : ∃ fn, fn = f + n := ⟨_, rfl⟩
  have HFN := toHid hfn
  have s5 : IntKind.i64.wrap ((f : Int) + (n : Int)) = (fn : Int) := by rw [IntKind.wrap_i64]; omega
  have s6 : (f : Int) ≤ (fn : Int) := by omega
  have s7 : (fn : Int) ≤ (e.cW : Int) := by omega
  have s7' : (fn : Int) ≤ (e.nW : Int) := by omega
  have s8 : ¬ e.cW = f := by omega
  have s9 : ¬ f = e.cW := by omega
  have s10 : ¬ e.cW - f = 0 := by omega
  have s11 : (0 : Int) ≤ (f : Int) := by omega
  have s12 : (0 : Int) ≤ (fn : Int) := by omega
  have s13 : (0 : Int) ≤ (s.gt : Int) := by omega
  have HSK : Hid (∀ W, Aside (· = e.bW) w5.drew W → W.cell? ⟨q, 0, none⟩ = some (.pointer (some ⟨e.p, 0, none⟩)) ∧ W.cell? ⟨e.p, 3, none⟩ = some (.slice (some ⟨e.bW, 0, none⟩) e.nW e.cW)) := fun W ha => by
    refine ⟨ha.cell HS5.out.1 (fun h => hq3 ?_), ha.cell HS5.out.2 (fun h => hq6 h)⟩
    rw [← HQ.out]; exact h
  have HBLK : Hid (Blk e.bW 50 (wordsV s.W) w5.drew) := HH5.out.hW.below (Below.refl _ _).drew
  have hlW : s.W.length = e.nW := HL.out
  have hcl : (wordsV ((s.W.drop f).take n)).length = n := by rw [lenV, List.length_take, List.length_drop]; omega
  have HMIN : Hid ((wordsV ((s.W.drop f).take n)).length = Nat.min (fn - f) (e.nW - s.gt)) := by
    show _ = _
    rw [hcl]
    have : fn - f = n := by omega
    rw [this]
    exact (Nat.min_eq_left (by omega)).symm
  have HFIT : Hid (s.gt + (wordsV ((s.W.drop f).take n)).length ≤ (wordsV s.W).length) := by show _ ≤ _; rw [hcl, lenV]; omega
  have HSRC : Hid (∀ j v, (wordsV ((s.W.drop f).take n))[j]? = some v → w5.drew.cell? ((⟨e.bW, f, none⟩ : Addr).add j) = some v) := fun j v hj => by
    have hjn : j < n := by have := (List.getElem?_eq_some_iff.1 hj).1; omega
    have e1 : (⟨e.bW, f, none⟩ : Addr).add j = ⟨e.bW, f + j, none⟩ := by unfold Addr.add; split <;> simp_all
    rw [e1]
    refine HBLK.out.cell ?_
    unfold wordsV at hj ⊢
    rw [List.getElem?_map, List.getElem?_take, if_pos hjn, List.getElem?_drop] at hj
    rw [List.getElem?_map]
    exact hj
  clear hfn hcl hlW
  clear d0 d1 d2 d3 d4 d5 d6 d7 d8 dm
  go_region_held3 (fun W => W.cell? ⟨q, 0, none⟩ = some (.pointer (some ⟨e.p, 0, none⟩)) ∧ W.cell? ⟨e.p, 3, none⟩ = some (.slice (some ⟨e.bW, 0, none⟩) e.nW e.cW)) (first | with_reducible exact HSK.out _ hA6.out | with_reducible exact HS5.out) (first | (refine step_copy_aside (by rfl) _ _ _ _ (by rfl) 50 Tryz.underlying26 infoU64m ⟨e.bW, f, none⟩ (e.nW - s.gt) (e.cW - s.gt) (fn - f) (e.cW - f) e.bW s.gt (by rfl) (by rfl) (wordsV s.W) 50 HBLK.out (wordsV ((s.W.drop f).take n)) HMIN.out HSRC.out HFIT.out (one_words _) ?_; intro w6 hB6 hA6))
  have a56 : Aside (· = e.bW) w5 w6 := (Aside.of_below (X := fun k => k = e.bW) (Below.refl _ _).drew).trans hA6.out
  have hB6' : Blk e.bW 50 (wordsV (splice s.W s.gt ((s.W.drop f).take n))) w6 := by have h := hB6.out; rw [wordsV_splice] at h; exact h
  have H6 := HH5.out.words a56 _ hB6'
  have hbb : ¬ bo = e.bW := fun h => hne e.bW (by simp) h.symm
  have n6 := (a56.block bo (lt_of_heap HN5.out) hbb).trans HN5.out
  have A6 : Hid (Aside (fun k => k = e.q ∨ k = e.bW) w w6) := A5.out.trans (a56.mono (fun k hk => Or.inr hk))
  have HH6 := toHid H6
  have HN6 := toHid n6
  obtain ⟨W6, hW6⟩ : ∃ W6, W6 = splice s.W s.gt ((s.W.drop f).take n) := ⟨_, rfl⟩
  have hl6 : s.gt < W6.length := by
    rw [hW6, length_splice _ _ _ (by have := HFIT.out; rw [lenV, lenV] at this; exact this), HL.out]
    omega
  rw [← hW6] at HH6
  have HW6 := toHid hW6
  clear hW6
  have HSK6 : Hid (∀ W, Aside (· = e.bW) w6.drew W → W.cell? ⟨q, 0, none⟩ = some (.pointer (some ⟨e.p, 0, none⟩)) ∧ W.cell? ⟨e.p, 3, none⟩ = some (.slice (some ⟨e.bW, 0, none⟩) e.nW e.cW) ∧ W.cell? ⟨bo, 0, none⟩ = some (.int .i64 k) ∧ W.cell? ⟨bo, 1, none⟩ = some (.int .i64 (0)) ∧ W.cell? ⟨bo, 2, none⟩ = some (.int .i64 mk) ∧ W.cell? ⟨bo, 3, none⟩ = some (.int .i64 sz)) := fun W ha => by
    obtain ⟨d0, _, _, _, _, _, _, _, _, dm⟩ := HH6.out.cells
    obtain ⟨o0, o1, o2, o3, _⟩ := head_block HN6.out
    refine ⟨ha.cell (by rw [HQ.out]; exact d0) (fun h => hq3 ?_), ha.cell dm (fun h => hq6 h), ha.cell o0 hbb, ha.cell o1 hbb, ha.cell o2 hbb, ha.cell o3 hbb⟩
    rw [← HQ.out]; exact h
  have HS6 := toHid (HSK6.out _ (Aside.refl _ _))
  have HC7 : Hid (∀ w7, Below w6.drew.heap.size w6.drew w7 → (∃ u, w7.cell? ⟨e.bW, s.gt, none⟩ = some u) ∧ w7.frozen? ⟨e.bW, s.gt, none⟩ = false) := fun w7 b7 => by
    have hb := (HH6.out.hW.below (w' := w6.drew) (Below.refl _ _).drew).below b7
    exact ⟨⟨_, hb.cell (List.getElem?_eq_getElem (by rw [lenV]; exact hl6))⟩, hb.frozen _⟩
  have hti : (s.gt : Int) < (e.nW : Int) := by omega
  clear hB6 hA6 a56 hB6' H6 n6 HH5 HN5 A5 HS5 HSK HBLK HMIN HFIT HSRC s1 s2 s3 s4 s5 s6 s7 s7' s8 s9 s10 s11 s12 HFN
  go_upto_region 9 with fail
  go_region_held3 (fun W => W.cell? ⟨q, 0, none⟩ = some (.pointer (some ⟨e.p, 0, none⟩)) ∧ W.cell? ⟨e.p, 3, none⟩ = some (.slice (some ⟨e.bW, 0, none⟩) e.nW e.cW) ∧ W.cell? ⟨bo, 0, none⟩ = some (.int .i64 k) ∧ W.cell? ⟨bo, 1, none⟩ = some (.int .i64 (0)) ∧ W.cell? ⟨bo, 2, none⟩ = some (.int .i64 mk) ∧ W.cell? ⟨bo, 3, none⟩ = some (.int .i64 sz)) (first | with_reducible exact HS6.out | with_reducible exact HSK6.out _ (Aside.of_below b7) | exact HSK6.out _ ((Aside.of_below (X := fun k => k = e.bW) b7).setCell rfl _)) (first | (go_at_call 46; refine (ko _).mono ?_; rintro ev w7 ⟨rfl, b7⟩; obtain ⟨⟨u7, c7⟩, f7⟩ := HC7.out w7 b7))
  obtain ⟨w8, hw8⟩ : ∃ w8, w8 = w7.setCell ⟨e.bW, s.gt, none⟩ (.int .u64 hw) := ⟨_, rfl⟩
  rw [← hw8]
  have a7 : Aside (· = e.bW) w6 w7 := (Aside.of_below (X := fun k => k = e.bW) (Below.refl _ _).drew).trans (Aside.of_below b7)
  have a8 : Aside (· = e.bW) w6 w8 := by rw [hw8]; exact a7.setCell rfl _
  have hB8 : Blk e.bW 50 (wordsV (W6.set s.gt hw)) w8 := by
    rw [hw8, ← wordsV_set]
    exact ((HH6.out.hW.below (w' := w6.drew) (Below.refl _ _).drew).below b7).set (by rw [lenV]; exact hl6) _
  have H8 := HH6.out.words a8 _ hB8
  have A8 : Aside (fun k => k = e.q ∨ k = e.bW) w w8 := A6.out.trans (a8.mono (fun k hk => Or.inr hk))
  obtain ⟨nm, D, hnm, hM, hWe⟩ := HH.out.hm
  have hM8 := ownsMap_aside hM A8 (fun h => by rcases h with h | h; exact hq2 h.symm; exact hq8 h)
  have kn := note_any (e.lo : Int) (e.hi : Int) e.bm nm f s.gt 0 D w8 (by omega) (by omega) (by omega) hM8 (Nat.zero_le _) (Nat.zero_le _)
  obtain ⟨d0, d1, d2, d3, _⟩ := H8.cells
  rw [← HQ.out] at d0 d1 d2 d3
  have HH8 := toHid H8
  have HA8 := toHid A8
  have HWe := toHid hWe
  clear hw8 a7 a8 hB8 H8 A8 hM hM8 hWe b7 c7 f7 HC7 HS6 HSK6 HH6 A6 HN6
  go_wp2_with fail
  refine kn.mono ?_
  clear kn
  rintro ev w9 ⟨rfl, ⟨n9, hn9, hM9⟩, b9, hf9⟩
  go_wp2_with fail
  go_end0
  have a9 : Aside (· = e.bm) w8 w9 := ⟨b9.os, b9.tape, b9.output, b9.size, hf9⟩
  have H9 := HH8.out
  rw [HNEW.out]
  refine ⟨rfl, ⟨?_, ?_, ?_, ?_, n9, _, ?_, hM9, went_put HWe.out f s.gt⟩, (HA8.out.mono (fun k hk => ?_)).trans (a9.mono (fun k hk => Or.inr (Or.inl hk)))⟩
  · exact (a9.block _ (lt_of_heap H9.hq) hq2).trans H9.hq
  · exact (a9.block _ (lt_of_heap H9.hp) hq5).trans H9.hp
  · have h := H9.hW.aside a9 (fun h => hq8 h.symm)
    rw [HW6.out] at h
    exact h
  · exact H9.hC.aside a9 (fun h => hq9 h.symm)
  · show n9 ≤ s.yt + (s.gt + n)
    omega
  · rcases hk with hk | hk
    · exact Or.inl hk
    · exact Or.inr (Or.inr (Or.inl hk))
set_option maxHeartbeats 4000000 in
set_option maxRecDepth 100000 in
theorem copyOut_young (e : CE) (s : CS) (f : Nat) (x : Int) (w : World) (H : CopAt e s w) (hx : s.W[f]? = some x) (hl : s.W.length = e.nW) (hn : e.nW ≤ 300000) (hcw : e.nW ≤ e.cW) (hU : U64 s.W) (hh : headB x = true) (hfit : f + (1 + szN x) ≤ e.nW) (hroom : s.yt + (1 + szN x) ≤ e.nW) (hyt : s.yt ≤ 300000) (hgt : s.gt ≤ 300000) (ht1 : e.tn ≤ 15) (hage : x / 1024 % 16 < e.tn) :
    Calls Tryz.prog 122 #[.pointer (some ⟨e.q, 0, none⟩), .int .u64 (((f : Int) + 1) * 4)] w fun ev w' => ev = .returned (.tuple #[]) ∧ CopAt e (s.young f x) w' ∧ Aside e.own w w' := by
  obtain ⟨x0, x1⟩ := hU x (List.mem_of_getElem? hx)
  have hff : f < e.nW := by omega
  have kt := toAddr_ok (((f : Int) + 1) * 4) (by omega) (by omega) (by omega) w
  rw [show (((f : Int) + 1) * 4) / 4 - 1 = (f : Int) by omega] at kt
  have kh := fun w1 (b1 : Below w.heap.size w w1) => chead_any e s f x w1 (H.below b1) hx hff x0 x1 hh
  unfold headV at kh
  obtain ⟨hq1, hq2, hq3, hq4, hq5, hq6, hq7, hq8, hq9, hq10⟩ := H.ne
  obtain ⟨E1, E2, E3⟩ := of_decide_eq_true hh
  obtain ⟨n, hnn⟩ : ∃ n : Nat, n = 1 + szN x := ⟨_, rfl⟩
  have hsz : x / 65536 = (szN x : Int) := by unfold szN; omega
  have hnI : 1 + x / 65536 = (n : Int) := by omega
  obtain ⟨k, hk⟩ : ∃ k, k = x / 4 % 256 := ⟨_, rfl⟩
  obtain ⟨ag, hag⟩ : ∃ ag, ag = x / 1024 % 16 := ⟨_, rfl⟩
  obtain ⟨mk, hmk⟩ : ∃ mk, mk = x / 16384 % 2 := ⟨_, rfl⟩
  obtain ⟨sz, hszz⟩ : ∃ sz, sz = x / 65536 := ⟨_, rfl⟩
  have HNEW : Hid (s.young f x = { s with W := (splice s.W s.yt ((s.W.drop f).take n)).set s.yt (sz * 65536 + mk * 16384 + (ag + 1) * 1024 + k * 4 + 3), φ := upd s.φ f s.yt, yt := s.yt + n }) := by
    show _ = _
    unfold CS.young layW hdW
    simp only [hk, hag, hmk, hszz, hnn]
  simp only [← hk, ← hag, ← hmk, ← hszz] at kh hnI hage hsz
  have gk0 : 0 ≤ k ∧ k ≤ 255 := by omega
  have ga0 : 0 ≤ ag ∧ ag ≤ 15 := by omega
  have gm0 : 0 ≤ mk ∧ mk ≤ 1 := by omega
  have gs0 : 0 ≤ sz ∧ sz ≤ 4096 := by omega
  have ko := fun w => ofHead_ok k (ag + 1) mk sz gk0.1 gk0.2 (by omega) (by omega) gm0.1 gm0.2 gs0.1 gs0.2 w
  obtain ⟨hw, hhw⟩ : ∃ hw, hw = sz * 65536 + mk * 16384 + (ag + 1) * 1024 + k * 4 + 3 := ⟨_, rfl⟩
  rw [← hhw] at ko HNEW
  clear hhw
  have hn1 : 1 ≤ n := by omega
  have hage2 : ¬ e.tn ≤ ag := by omega
  have hnb : n ≤ 4097 := by omega
  rw [← hnn] at hfit hroom
  have HH := toHid H
  have HKH := toHid kh
  have HX := toHid hx
  have HNI := toHid hnI
  have HL := toHid hl
  clear kh hk hag hmk hszz hsz hnn hnI E1 E2 E3 H hx hU hh x0 x1 hl
  obtain ⟨q, hq⟩ : ∃ q, q = e.q := ⟨_, rfl⟩
  rw [← hq]
  have HQ := toHid hq
  clear hq
  go_enter Tryz.func122, Tryz.ntmps122
  go_wp2_with fail
  refine kt.mono ?_
  clear kt
  rintro ev w1 ⟨rfl, b1⟩
  have kh := HKH.out w1 b1
  rw [← HQ.out] at kh
  have HB1 := toHid b1
  clear b1
  go_wp2_with fail
  refine kh.mono ?_
  clear kh
  rintro ev w2 ⟨rfl, b2⟩
  go_upto_region 2 with fail
  obtain ⟨w3, hw3⟩ : ∃ w3, w3 = w2.alloc (.cells #[.int .i64 k, .int .i64 ag, .int .i64 mk, .int .i64 sz] 92) := ⟨_, rfl⟩
  obtain ⟨bo, hbo⟩ : ∃ bo, bo = w2.heap.size := ⟨_, rfl⟩
  have b3 : Below w.heap.size w w3 := by rw [hw3]; exact (HB1.out.trans (b2.mono HB1.out.size)).alloc (HB1.out.trans (b2.mono HB1.out.size)).size _
  have n3 : w3.heap[bo]? = some (.cells #[.int .i64 k, .int .i64 ag, .int .i64 mk, .int .i64 sz] 92) := by rw [hw3, hbo]; exact heap_alloc_new _ _
  have hbw : w.heap.size ≤ bo := by rw [hbo]; exact (HB1.out.trans (b2.mono HB1.out.size)).size
  rw [← hw3, ← hbo]
  obtain ⟨o0, o1, o2, o3, of'⟩ := head_block n3
  have of1 := of' 1
  have H3 := HH.out.below b3
  obtain ⟨c0, c1, c2, c3, c4, c5, c6, c7, c8, m3⟩ := H3.cells
  rw [← HQ.out] at c0 c1 c2 c3 c4 c5 c6 c7 c8
  have fz : ∀ o, w3.frozen? ⟨q, o, none⟩ = false := fun o => by have h := H3.hq; rw [← HQ.out] at h; simp [World.frozen?, h]
  have HN3 := toHid n3
  have HB3 := toHid b3
  have HFZ := toHid fz
  have HH3 := toHid H3
  have HBW := toHid hbw
  clear hw3 hbo b3 n3 of' H3 b2 HB1 hbw fz
  have hsI : IntKind.i64.wrap (1 + sz) = (n : Int) := by rw [HNI.out, IntKind.wrap_i64]; omega
  go_wp2_with fail
  go_quiet (fail)
  obtain ⟨w4, hw4⟩ : ∃ w4, w4 = (w3.drewN nq).setCell ⟨bo, 1, none⟩ (.int .i64 (ag + 1)) := ⟨_, rfl⟩
  have hne : ∀ k, (k = e.q ∨ k = e.p ∨ k = e.bm ∨ k = e.bW ∨ k = e.bC) → ¬ k = bo := fun k hk => by
    have h1 := lt_of_heap HH.out.hq
    have h2 := lt_of_heap HH.out.hp
    have h3 := HH.out.hW.lt
    have h4 := HH.out.hC.lt
    obtain ⟨_, _, _, hm, _⟩ := HH.out.hm
    have h5 := hm.lt
    have h6 := HBW.out
    omega
  have a4 : Aside (· = bo) w3 w4 := by rw [hw4]; exact (Aside.of_below (X := fun k => k = bo) (below_drewN (Below.refl _ _))).setCell (g := bo) rfl _
  have H4 := HH3.out.aside a4 hne
  have n4 : w4.heap[bo]? = some (.cells #[.int .i64 k, .int .i64 (ag + 1), .int .i64 mk, .int .i64 sz] 92) := by rw [hw4]; exact (heap_set_same HN3.out)
  have A4 : Aside (fun k => k = e.q ∨ k = e.bW) w w4 := ⟨a4.os.trans HB3.out.os, a4.tape.trans HB3.out.tape, a4.output.trans HB3.out.output, Nat.le_trans HB3.out.size a4.size, fun k hk _ => (a4.block k (Nat.lt_of_lt_of_le hk HB3.out.size) (fun e => by have := HBW.out; have e' : k = bo := e; omega)).trans (HB3.out.block k hk)⟩
  go_upto_region 7 with fail
  rw [← hw4]
  obtain ⟨d0, d1, d2, d3, d4, d5, d6, d7, d8, dm⟩ := H4.cells
  have fz4 : w4.frozen? ⟨e.q, 5 + 1, none⟩ = false := by have h := H4.hq; simp [World.frozen?, h]
  have kp := take_part e.q 5 (s.yt : Int) (n : Int) (by omega) (by omega) (by omega) (by omega) w4 d6 fz4
  rw [← HQ.out] at kp
  have HH4 := toHid H4
  have HN4 := toHid n4
  have HA4 := toHid A4
  clear hw4 a4 H4 n4 A4 d0 d1 d2 d3 d4 d5 d6 d7 d8 dm c0 c1 c2 c3 c4 c5 c6 c7 c8 m3 o0 o1 o2 o3 of1 fz4 HN3 HB3 HFZ HH3
  go_wp2_with fail
  refine kp.mono ?_
  clear kp
  rintro ev w5 ⟨rfl, hw5⟩
  rw [HQ.out] at hw5
  have H5 : CopAt e { s with yt := s.yt + n } w5 := by rw [hw5]; exact HH4.out.setYt n
  have hqb : ¬ e.q = bo := hne _ (Or.inl rfl)
  have n5 : w5.heap[bo]? = some (.cells #[.int .i64 k, .int .i64 (ag + 1), .int .i64 mk, .int .i64 sz] 92) := by rw [hw5]; exact (heap_set _ _ _ _ _ (fun e => hqb e.symm)).trans HN4.out
  have A5 : Hid (Aside (fun k => k = e.q ∨ k = e.bW) w w5) := by rw [hw5]; exact HA4.out.setCell (Or.inl rfl) _
  have HH5 := toHid H5
  have HN5 := toHid n5
  clear hw5 H5 n5 HH4 HN4 HA4
  go_upto_region 8 with fail
  obtain ⟨d0, d1, d2, d3, d4, d5, d6, d7, d8, dm⟩ := HH5.out.cells
  rw [← HQ.out] at d0
  have HS5 : Hid (w5.drew.cell? ⟨q, 0, none⟩ = some (.pointer (some ⟨e.p, 0, none⟩)) ∧ w5.drew.cell? ⟨e.p, 3, none⟩ = some (.slice (some ⟨e.bW, 0, none⟩) e.nW e.cW)) := ⟨d0, dm⟩
  have s1 : ((s.yt : Int)) ≤ (e.nW : Int) := by omega
  have s2 : ¬ e.cW = s.yt := by omega
  have s3 : ¬ s.yt = e.cW := by omega
  have s4 : ¬ e.cW - s.yt = 0 := by omega
  obtain ⟨fn, hfn⟩ : ∃ fn, fn = f + n := ⟨_, rfl⟩
  have HFN := toHid hfn
  have s5 : IntKind.i64.wrap ((f : Int) + (n : Int)) = (fn : Int) := by rw [IntKind.wrap_i64]; omega
  have s6 : (f : Int) ≤ (fn : Int) := by omega
  have s7 : (fn : Int) ≤ (e.cW : Int) := by omega
  have s7' : (fn : Int) ≤ (e.nW : Int) := by omega
  have s8 : ¬ e.cW = f := by omega
  have s9 : ¬ f = e.cW := by omega
  have s10 : ¬ e.cW - f = 0 := by omega
  have s11 : (0 : Int) ≤ (f : Int) := by omega
  have s12 : (0 : Int) ≤ (fn : Int) := by omega
  have s13 : (0 : Int) ≤ (s.yt : Int) := by omega
  have HSK : Hid (∀ W, Aside (· = e.bW) w5.drew W → W.cell? ⟨q, 0, none⟩ = some (.pointer (some ⟨e.p, 0, none⟩)) ∧ W.cell? ⟨e.p, 3, none⟩ = some (.slice (some ⟨e.bW, 0, none⟩) e.nW e.cW)) := fun W ha => by
    refine ⟨ha.cell HS5.out.1 (fun h => hq3 ?_), ha.cell HS5.out.2 (fun h => hq6 h)⟩
    rw [← HQ.out]; exact h
  have HBLK : Hid (Blk e.bW 50 (wordsV s.W) w5.drew) := HH5.out.hW.below (Below.refl _ _).drew
  have hlW : s.W.length = e.nW := HL.out
  have hcl : (wordsV ((s.W.drop f).take n)).length = n := by rw [lenV, List.length_take, List.length_drop]; omega
  have HMIN : Hid ((wordsV ((s.W.drop f).take n)).length = Nat.min (fn - f) (e.nW - s.yt)) := by
    show _ = _
    rw [hcl]
    have : fn - f = n := by omega
    rw [this]
    exact (Nat.min_eq_left (by omega)).symm
  have HFIT : Hid (s.yt + (wordsV ((s.W.drop f).take n)).length ≤ (wordsV s.W).length) := by show _ ≤ _; rw [hcl, lenV]; omega
  have HSRC : Hid (∀ j v, (wordsV ((s.W.drop f).take n))[j]? = some v → w5.drew.cell? ((⟨e.bW, f, none⟩ : Addr).add j) = some v) := fun j v hj => by
    have hjn : j < n := by have := (List.getElem?_eq_some_iff.1 hj).1; omega
    have e1 : (⟨e.bW, f, none⟩ : Addr).add j = ⟨e.bW, f + j, none⟩ := by unfold Addr.add; split <;> simp_all
    rw [e1]
    refine HBLK.out.cell ?_
    unfold wordsV at hj ⊢
    rw [List.getElem?_map, List.getElem?_take, if_pos hjn, List.getElem?_drop] at hj
    rw [List.getElem?_map]
    exact hj
  clear hfn hcl hlW
  clear d0 d1 d2 d3 d4 d5 d6 d7 d8 dm
  go_region_held3 (fun W => W.cell? ⟨q, 0, none⟩ = some (.pointer (some ⟨e.p, 0, none⟩)) ∧ W.cell? ⟨e.p, 3, none⟩ = some (.slice (some ⟨e.bW, 0, none⟩) e.nW e.cW)) (first | with_reducible exact HSK.out _ hA6.out | with_reducible exact HS5.out) (first | (refine step_copy_aside (by rfl) _ _ _ _ (by rfl) 50 Tryz.underlying26 infoU64m ⟨e.bW, f, none⟩ (e.nW - s.yt) (e.cW - s.yt) (fn - f) (e.cW - f) e.bW s.yt (by rfl) (by rfl) (wordsV s.W) 50 HBLK.out (wordsV ((s.W.drop f).take n)) HMIN.out HSRC.out HFIT.out (one_words _) ?_; intro w6 hB6 hA6))
  have a56 : Aside (· = e.bW) w5 w6 := (Aside.of_below (X := fun k => k = e.bW) (Below.refl _ _).drew).trans hA6.out
  have hB6' : Blk e.bW 50 (wordsV (splice s.W s.yt ((s.W.drop f).take n))) w6 := by have h := hB6.out; rw [wordsV_splice] at h; exact h
  have H6 := HH5.out.words a56 _ hB6'
  have hbb : ¬ bo = e.bW := fun h => hne e.bW (by simp) h.symm
  have n6 := (a56.block bo (lt_of_heap HN5.out) hbb).trans HN5.out
  have A6 : Hid (Aside (fun k => k = e.q ∨ k = e.bW) w w6) := A5.out.trans (a56.mono (fun k hk => Or.inr hk))
  have HH6 := toHid H6
  have HN6 := toHid n6
  obtain ⟨W6, hW6⟩ : ∃ W6, W6 = splice s.W s.yt ((s.W.drop f).take n) := ⟨_, rfl⟩
  have hl6 : s.yt < W6.length := by
    rw [hW6, length_splice _ _ _ (by have := HFIT.out; rw [lenV, lenV] at this; exact this), HL.out]
    omega
  rw [← hW6] at HH6
  have HW6 := toHid hW6
  clear hW6
  have HSK6 : Hid (∀ W, Aside (· = e.bW) w6.drew W → W.cell? ⟨q, 0, none⟩ = some (.pointer (some ⟨e.p, 0, none⟩)) ∧ W.cell? ⟨e.p, 3, none⟩ = some (.slice (some ⟨e.bW, 0, none⟩) e.nW e.cW) ∧ W.cell? ⟨bo, 0, none⟩ = some (.int .i64 k) ∧ W.cell? ⟨bo, 1, none⟩ = some (.int .i64 (ag + 1)) ∧ W.cell? ⟨bo, 2, none⟩ = some (.int .i64 mk) ∧ W.cell? ⟨bo, 3, none⟩ = some (.int .i64 sz)) := fun W ha => by
    obtain ⟨d0, _, _, _, _, _, _, _, _, dm⟩ := HH6.out.cells
    obtain ⟨o0, o1, o2, o3, _⟩ := head_block HN6.out
    refine ⟨ha.cell (by rw [HQ.out]; exact d0) (fun h => hq3 ?_), ha.cell dm (fun h => hq6 h), ha.cell o0 hbb, ha.cell o1 hbb, ha.cell o2 hbb, ha.cell o3 hbb⟩
    rw [← HQ.out]; exact h
  have HS6 := toHid (HSK6.out _ (Aside.refl _ _))
  have HC7 : Hid (∀ w7, Below w6.drew.heap.size w6.drew w7 → (∃ u, w7.cell? ⟨e.bW, s.yt, none⟩ = some u) ∧ w7.frozen? ⟨e.bW, s.yt, none⟩ = false) := fun w7 b7 => by
    have hb := (HH6.out.hW.below (w' := w6.drew) (Below.refl _ _).drew).below b7
    exact ⟨⟨_, hb.cell (List.getElem?_eq_getElem (by rw [lenV]; exact hl6))⟩, hb.frozen _⟩
  have hti : (s.yt : Int) < (e.nW : Int) := by omega
  clear hB6 hA6 a56 hB6' H6 n6 HH5 HN5 A5 HS5 HSK HBLK HMIN HFIT HSRC s1 s2 s3 s4 s5 s6 s7 s7' s8 s9 s10 s11 s12 HFN
  go_upto_region 9 with fail
  go_region_held3 (fun W => W.cell? ⟨q, 0, none⟩ = some (.pointer (some ⟨e.p, 0, none⟩)) ∧ W.cell? ⟨e.p, 3, none⟩ = some (.slice (some ⟨e.bW, 0, none⟩) e.nW e.cW) ∧ W.cell? ⟨bo, 0, none⟩ = some (.int .i64 k) ∧ W.cell? ⟨bo, 1, none⟩ = some (.int .i64 (ag + 1)) ∧ W.cell? ⟨bo, 2, none⟩ = some (.int .i64 mk) ∧ W.cell? ⟨bo, 3, none⟩ = some (.int .i64 sz)) (first | with_reducible exact HS6.out | with_reducible exact HSK6.out _ (Aside.of_below b7) | exact HSK6.out _ ((Aside.of_below (X := fun k => k = e.bW) b7).setCell rfl _)) (first | (go_at_call 46; refine (ko _).mono ?_; rintro ev w7 ⟨rfl, b7⟩; obtain ⟨⟨u7, c7⟩, f7⟩ := HC7.out w7 b7))
  obtain ⟨w8, hw8⟩ : ∃ w8, w8 = w7.setCell ⟨e.bW, s.yt, none⟩ (.int .u64 hw) := ⟨_, rfl⟩
  rw [← hw8]
  have a7 : Aside (· = e.bW) w6 w7 := (Aside.of_below (X := fun k => k = e.bW) (Below.refl _ _).drew).trans (Aside.of_below b7)
  have a8 : Aside (· = e.bW) w6 w8 := by rw [hw8]; exact a7.setCell rfl _
  have hB8 : Blk e.bW 50 (wordsV (W6.set s.yt hw)) w8 := by
    rw [hw8, ← wordsV_set]
    exact ((HH6.out.hW.below (w' := w6.drew) (Below.refl _ _).drew).below b7).set (by rw [lenV]; exact hl6) _
  have H8 := HH6.out.words a8 _ hB8
  have A8 : Aside (fun k => k = e.q ∨ k = e.bW) w w8 := A6.out.trans (a8.mono (fun k hk => Or.inr hk))
  obtain ⟨nm, D, hnm, hM, hWe⟩ := HH.out.hm
  have hM8 := ownsMap_aside hM A8 (fun h => by rcases h with h | h; exact hq2 h.symm; exact hq8 h)
  have kn := note_any (e.lo : Int) (e.hi : Int) e.bm nm f s.yt 0 D w8 (by omega) (by omega) (by omega) hM8 (Nat.zero_le _) (Nat.zero_le _)
  obtain ⟨d0, d1, d2, d3, _⟩ := H8.cells
  rw [← HQ.out] at d0 d1 d2 d3
  have HH8 := toHid H8
  have HA8 := toHid A8
  have HWe := toHid hWe
  clear hw8 a7 a8 hB8 H8 A8 hM hM8 hWe b7 c7 f7 HC7 HS6 HSK6 HH6 A6 HN6
  go_wp2_with fail
  refine kn.mono ?_
  clear kn
  rintro ev w9 ⟨rfl, ⟨n9, hn9, hM9⟩, b9, hf9⟩
  go_wp2_with fail
  go_end0
  have a9 : Aside (· = e.bm) w8 w9 := ⟨b9.os, b9.tape, b9.output, b9.size, hf9⟩
  have H9 := HH8.out
  rw [HNEW.out]
  refine ⟨rfl, ⟨?_, ?_, ?_, ?_, n9, _, ?_, hM9, went_put HWe.out f s.yt⟩, (HA8.out.mono (fun k hk => ?_)).trans (a9.mono (fun k hk => Or.inr (Or.inl hk)))⟩
  · exact (a9.block _ (lt_of_heap H9.hq) hq2).trans H9.hq
  · exact (a9.block _ (lt_of_heap H9.hp) hq5).trans H9.hp
  · have h := H9.hW.aside a9 (fun h => hq8 h.symm)
    rw [HW6.out] at h
    exact h
  · exact H9.hC.aside a9 (fun h => hq9 h.symm)
  · show n9 ≤ s.yt + n + s.gt
    omega
  · rcases hk with hk | hk
    · exact Or.inl hk
    · exact Or.inr (Or.inr (Or.inl hk))
end Go.Proofs.YtnenggkgfhgcnaaGreatDoor

/- Package minor: a word follows, its object copied out if it was not (follow), by a contract. -/
namespace Go.Proofs.YtnenggkgfhgcnaaGreatDoor
open Go.RowKit Go.Maps

/-- An object is copied out. -/
def CS.copy (e : CE) (s : CS) (f : Nat) : CS := if e.tn ≤ s.W.getD f 0 / 1024 % 16 then s.grown f (s.W.getD f 0) else s.young f (s.W.getD f 0)
/-- Behind a word that follows. -/
def CS.follow (e : CE) (s : CS) (x : Int) : CS := if (nowP e.lo e.hi s.φ x).2 then s else s.copy e (ptI x).toNat
/-- What a word has become. -/
def CS.word (e : CE) (s : CS) (x : Int) : Int := (nowP e.lo e.hi (s.follow e x).φ x).1
/-- There is room for an object's copy, and it is one. -/
structure CanCopy (e : CE) (s : CS) (f : Nat) : Prop where
  head : headB (s.W.getD f 0) = true
  fit : f + (1 + szN (s.W.getD f 0)) ≤ e.nW
  grown : e.tn ≤ s.W.getD f 0 / 1024 % 16 → s.gt + (1 + szN (s.W.getD f 0)) ≤ e.nW
  young : s.W.getD f 0 / 1024 % 16 < e.tn → s.yt + (1 + szN (s.W.getD f 0)) ≤ e.nW
/-- The plain side of how a copier stands. -/
structure CSOK (e : CE) (s : CS) : Prop where
  len : s.W.length = e.nW
  few : e.nW ≤ 300000
  cap : e.nW ≤ e.cW
  hi : e.hi ≤ 300000
  u64 : U64 s.W
  yt : s.yt ≤ 300000
  gt : s.gt ≤ 300000
  tn : e.tn ≤ 15
  φ : ∀ f t, s.φ f = some t → t ≤ 300000
theorem copyOut_any (e : CE) (s : CS) (f : Nat) (w : World) (H : CopAt e s w) (O : CSOK e s) (hc : CanCopy e s f) :
    Calls Tryz.prog 122 #[.pointer (some ⟨e.q, 0, none⟩), .int .u64 (((f : Int) + 1) * 4)] w fun ev w' => ev = .returned (.tuple #[]) ∧ CopAt e (s.copy e f) w' ∧ Aside e.own w w' := by
  have hf : f < s.W.length := by have := hc.fit; have := O.len; omega
  have hx : s.W[f]? = some (s.W.getD f 0) := by rw [List.getD_eq_getElem?_getD, List.getElem?_eq_getElem hf]; rfl
  unfold CS.copy
  by_cases h : e.tn ≤ s.W.getD f 0 / 1024 % 16
  · rw [if_pos h]
    exact copyOut_grown e s f _ w H hx O.len O.few O.cap O.u64 hc.head hc.fit (hc.grown h) O.yt O.gt h
  · rw [if_neg h]
    exact copyOut_young e s f _ w H hx O.len O.few O.cap O.u64 hc.head hc.fit (hc.young (by omega)) O.yt O.gt O.tn (by omega)
theorem nowP_false {lo hi : Nat} {φ : Nat → Option Nat} {x : Int} (h : (nowP lo hi φ x).2 = false) : 0 ≤ ptI x ∧ x = (((ptI x).toNat : Int) + 1) * 4 := by
  unfold nowP at h
  split at h
  · rename_i hc
    refine ⟨hc.1, ?_⟩
    have h1 := hc.1
    unfold ptI at h1 ⊢
    split at h1
    · rename_i h2
      rw [if_pos h2]
      omega
    · omega
  · cases h
set_option maxHeartbeats 2000000 in
set_option maxRecDepth 100000 in
theorem cfollow_any (a : Nat → Addr) (e : CE) (s : CS) (x : Int) (w : World) (H : CopAt e s w) (O : CSOK e s) (h0 : 0 ≤ x) (h1 : x < 18446744073709551616) (E : ∀ w', Aside e.own w w' → WErr a w') (hc : (nowP e.lo e.hi s.φ x).2 = false → CanCopy e s (ptI x).toNat ∧ ∀ f t, (s.copy e (ptI x).toNat).φ f = some t → t ≤ 300000) :
    Calls Tryz.prog 100 #[.pointer (some ⟨e.q, 0, none⟩), .int .u64 x] w fun ev w' => ev = .returned (.int .u64 (s.word e x)) ∧ CopAt e (s.follow e x) w' ∧ Aside e.own w w' := by
  obtain ⟨n, D, _, hM, hWe⟩ := H.hm
  have kn := now_any a e.lo e.hi e.bm n x D s.φ w O.hi h0 h1 O.φ hM hWe (E w (Aside.refl _ _))
  obtain ⟨d0, d1, d2, d3, _⟩ := H.cells
  cases hp : (nowP e.lo e.hi s.φ x).2 with
  | true =>
    have hf : s.follow e x = s := by unfold CS.follow; rw [hp]; rfl
    unfold CS.word
    rw [hf]
    rw [hp] at kn
    have HH := toHid H
    obtain ⟨y, hy⟩ : ∃ y, y = (nowP e.lo e.hi s.φ x).1 := ⟨_, rfl⟩
    rw [← hy] at kn ⊢
    clear hy hf H hM hWe E hc O hp
    go_enter Tryz.func100, Tryz.ntmps100
    go_wp2_with fail
    refine kn.mono ?_
    clear kn
    rintro ev w1 ⟨rfl, b1⟩
    go_wp2_with fail
    go_ret
    exact ⟨rfl, HH.out.below b1, Aside.of_below b1⟩
  | false =>
    obtain ⟨hcc, hφ'⟩ := hc hp
    obtain ⟨hp0, hxe⟩ := nowP_false hp
    have hf : s.follow e x = s.copy e (ptI x).toNat := by unfold CS.follow; rw [hp]; rfl
    unfold CS.word
    rw [hf]
    rw [hp] at kn
    have HK : Hid (∀ w1, Below w.heap.size w w1 → Calls Tryz.prog 122 #[.pointer (some ⟨e.q, 0, none⟩), .int .u64 x] w1 fun ev w' => ev = .returned (.tuple #[]) ∧ CopAt e (s.copy e (ptI x).toNat) w' ∧ Aside e.own w w') := fun w1 b1 => by
      have h := copyOut_any e s (ptI x).toNat w1 (H.below b1) O hcc
      rw [← hxe] at h
      refine h.mono ?_
      rintro ev w' ⟨rfl, h2, h3⟩
      exact ⟨rfl, h2, (Aside.of_below b1).trans h3⟩
    have HN : Hid (∀ w2, CopAt e (s.copy e (ptI x).toNat) w2 → Aside e.own w w2 → Calls Tryz.prog 89 #[.agg #[.int .i64 (e.lo : Int), .int .i64 (e.hi : Int), .map (some e.bm)], .int .u64 x] w2 fun ev w' => ev = .returned (.tuple #[.int .u64 (nowP e.lo e.hi (s.copy e (ptI x).toNat).φ x).1, .bool (nowP e.lo e.hi (s.copy e (ptI x).toNat).φ x).2]) ∧ Below w2.heap.size w2 w') := fun w2 h2 a2 => by
      obtain ⟨n2, D2, _, hM2, hW2⟩ := h2.hm
      exact now_any a e.lo e.hi e.bm n2 x D2 _ w2 O.hi h0 h1 hφ' hM2 hW2 (E w2 a2)
    have hc0 : Hid (∀ w2, CopAt e (s.copy e (ptI x).toNat) w2 → w2.cell? ⟨e.q, 1, none⟩ = some (.int .i64 (e.lo : Int)) ∧ w2.cell? ⟨e.q, 2, none⟩ = some (.int .i64 (e.hi : Int)) ∧ w2.cell? ⟨e.q, 3, none⟩ = some (.map (some e.bm))) := fun w2 h2 => by
      obtain ⟨_, c1, c2, c3, _⟩ := h2.cells
      exact ⟨c1, c2, c3⟩
    obtain ⟨y, hy⟩ : ∃ y, y = (nowP e.lo e.hi (s.copy e (ptI x).toNat).φ x).1 := ⟨_, rfl⟩
    obtain ⟨z, hz⟩ : ∃ z, z = (nowP e.lo e.hi (s.copy e (ptI x).toNat).φ x).2 := ⟨_, rfl⟩
    obtain ⟨y0, hy0⟩ : ∃ y0, y0 = (nowP e.lo e.hi s.φ x).1 := ⟨_, rfl⟩
    obtain ⟨s', hs'⟩ : ∃ s', s' = s.copy e (ptI x).toNat := ⟨_, rfl⟩
    rw [← hy, ← hz] at HN
    rw [← hy0] at kn
    rw [← hy]
    rw [← hs'] at HK HN hc0 ⊢
    clear hy hz hy0 hs' hf H hM hWe E hc O hp hcc hφ' hxe hp0
    go_enter Tryz.func100, Tryz.ntmps100
    go_wp2_with fail
    refine kn.mono ?_
    clear kn
    rintro ev w1 ⟨rfl, b1⟩
    have kk := HK.out w1 b1
    clear b1 HK d0 d1 d2 d3
    go_wp2_with fail
    refine kk.mono ?_
    clear kk
    rintro ev w2 ⟨rfl, H2, A2⟩
    obtain ⟨c1, c2, c3⟩ := hc0.out w2 H2
    have k2 := HN.out w2 H2 A2
    have HH2 := toHid H2
    have HA2 := toHid A2
    clear H2 A2 hc0 HN
    go_wp2_with fail
    refine k2.mono ?_
    clear k2
    rintro ev w3 ⟨rfl, b3⟩
    go_wp2_with fail
    go_ret
    exact ⟨rfl, HH2.out.below b3, HA2.out.trans (Aside.of_below b3)⟩
end Go.Proofs.YtnenggkgfhgcnaaGreatDoor

/- Package minor: a card is marked behind a copier's word (Mark), by a contract. -/
namespace Go.Proofs.YtnenggkgfhgcnaaGreatDoor
open Go.RowKit Go.Maps

/-- Behind a card that is marked, if it must be. -/
def CS.mark (e : CE) (s : CS) (y : Nat) : CS := if 2 * e.half ≤ (y : Int) ∧ youngB e.half (s.W.getD y 0) = true then { s with C := s.C.set (cardN e.half e.card y) true } else s
theorem CopAt.mem {e : CE} {s : CS} {w : World} (h : CopAt e s w) : MemAt e.p e.half e.old e.card (.slice (some ⟨e.bW, 0, none⟩) e.nW e.cW) e.used e.top e.oldTop e.vR e.vK e.vI (.slice (some ⟨e.bC, 0, none⟩) e.nC e.cC) w := by
  have hp := h.hp
  unfold MB at hp
  constructor <;> (rw [cell_of_row _ _ _ _ _ _ hp]; rfl)
theorem CopAt.cards {e : CE} {s : CS} {w w' : World} (h : CopAt e s w) (ha : Aside (· = e.bC) w w') (C : List Bool) (hC : Blk e.bC 4 (boolsV C) w') : CopAt e { s with C := C } w' := by
  obtain ⟨n1, n2, n3, n4, n5, n6, n7, n8, n9, n10⟩ := h.ne
  obtain ⟨k, D, hn, hm, hw⟩ := h.hm
  exact ⟨(ha.block _ (lt_of_heap h.hq) n4).trans h.hq, (ha.block _ (lt_of_heap h.hp) n7).trans h.hp, h.hW.aside ha n10, hC, k, D, hn, ownsMap_aside hm ha n9, hw⟩
theorem boolsV_set (C : List Bool) (j : Nat) (b : Bool) : (boolsV C).set j (.bool b) = boolsV (C.set j b) := by unfold boolsV; rw [List.map_set]
set_option maxHeartbeats 4000000 in
set_option maxRecDepth 100000 in
theorem cmark_any (a : Nat → Addr) (e : CE) (s : CS) (y : Nat) (x : Int) (w : World) (H : CopAt e s w) (F : Fits e.half e.old e.card e.nW e.nC e.used e.top e.oldTop) (hlW : s.W.length = e.nW) (hlC : s.C.length = e.nC) (hx : s.W[y]? = some x) (x0 : 0 ≤ x) (x1 : x < 18446744073709551616) (E : WErr a w) :
    Calls Tryz.prog 101 #[.pointer (some ⟨e.p, 0, none⟩), .int .i64 (y : Int)] w fun ev w' => ev = .returned (.tuple #[]) ∧ CopAt e (s.mark e y) w' ∧ Aside e.own w w' := by
  have hnum := F.nums
  unfold numsOK at hnum
  have hw := F.w
  have hyl : y < e.nW := by rw [← hlW]; exact (List.getElem?_eq_some_iff.1 hx).1
  have hy3 : y ≤ 300000 := by omega
  have dy : w.cell? ⟨e.bW, y, none⟩ = some (.int .u64 x) := H.hW.cell (wordsV_at hx)
  have hgx : s.W.getD y 0 = x := by rw [List.getD_eq_getElem?_getD, hx]; rfl
  have M := H.mem
  have c0 : w.cell? ⟨e.p, 0, none⟩ = some (.int .i64 e.half) := M.c0
  have c3 := M.c3
  have km : Hid (∀ q, Calls Tryz.prog 73 #[.pointer (some ⟨e.p, 0, none⟩)] (w.drewN q) fun ev w' => ev = .returned (.bool true) ∧ ∃ n, w' = (w.drewN q).drewN n) := fun q => measured_ok e.p e.half e.old e.card e.nW e.nC e.cW e.cC _ _ e.used e.top e.oldTop _ _ _ F (w.drewN q) (M.below (below_drewN (Below.refl _ _)) (lt_of_cell c0))
  have ko : Hid (∀ q, Calls Tryz.prog 43 #[.pointer (some ⟨e.p, 0, none⟩)] (w.drewN q) fun ev w' => ev = .returned (.int .i64 (2 * e.half)) ∧ w' = w.drewN q) := fun q => oldFrom_any e.p e.half (by omega) (by omega) (w.drewN q) c0
  have ky : Hid (∀ q, Calls Tryz.prog 108 #[.pointer (some ⟨e.p, 0, none⟩), .int .u64 x] (w.drewN q) fun ev w' => ev = .returned (.bool (youngB e.half x)) ∧ ∃ n, w' = (w.drewN q).drewN n) := fun q => young_any a e.p e.half x (by omega) (by omega) x0 x1 (w.drewN q) (E.below (below_drewN (Below.refl _ _))) c0
  have kw : Hid (∀ W, Calls Tryz.prog 72 #[.int .i64 (y : Int), .int .i64 (2 * e.half), .int .i64 ((e.nW : Int) - 1)] W fun ev w' => ev = .returned (.bool (decide (2 * e.half ≤ (y : Int)))) ∧ w' = W) := fun W => by
    have h := mwithin_any (y : Int) (2 * e.half) ((e.nW : Int) - 1) W
    rw [decide_eq_true (show (y : Int) ≤ (e.nW : Int) - 1 by omega), Bool.and_true] at h
    exact h
  have e1 : IntKind.i64.wrap ((e.nW : Int) - 1) = (e.nW : Int) - 1 := wrapI _ (by omega) (by omega)
  have hI : (y : Int) < (e.nW : Int) := by omega
  have hI0 : (0 : Int) ≤ (y : Int) := by omega
  have HH := toHid H
  have HX := toHid hgx
  have d2 := M.c2
  have d10 := M.c10
  have HLC := toHid hlC
  have hFM : Hid ((⟨e.half, e.old, e.card, e.used, e.top, e.oldTop, s.W, [], [], [], s.C⟩ : MD).FitsM) := by
    show Fits e.half e.old e.card s.W.length s.C.length e.used e.top e.oldTop
    rw [hlW, hlC]; exact F
  have HLW := toHid hlW
  clear H M E hx hw hgx hlC hlW F
  by_cases hold : 2 * e.half ≤ (y : Int)
  · rw [decide_eq_true hold] at kw
    cases hyo : youngB e.half x with
    | true =>
      rw [hyo] at ky
      have HPU : Hid (s.mark e y = { s with C := s.C.set (cardN e.half e.card y) true }) := by show _ = _; unfold CS.mark; rw [if_pos ⟨hold, by rw [HX.out]; exact hyo⟩]
      clear hyo
      obtain ⟨d, j, hd, hj, hjl, hcn⟩ := card_ix hFM.out hold (by show y < s.W.length; rw [HLW.out]; exact hyl)
      have hd : (y : Int) - 2 * e.half = (d : Int) := hd
      have hj : (d : Int) / e.card = (j : Int) := hj
      have hjl : j < s.C.length := hjl
      have hcn : cardN e.half e.card y = j := hcn
      have hJ : (j : Int) < (e.nC : Int) := by rw [← HLC.out]; omega
      have hJ0 : (0 : Int) ≤ (j : Int) := by omega
      have kc : Hid (∀ W, Below w.heap.size w W → Calls Tryz.prog 99 #[.pointer (some ⟨e.p, 0, none⟩), .int .i64 (y : Int)] W fun ev w' => ev = .returned (.int .i64 (j : Int)) ∧ ∃ n, w' = W.drewN n) := fun W hW => cardOf_any e.p e.half e.card y d j (by omega) (by omega) (by omega) hy3 hd hj W ((hW.cell (p := ⟨e.p, 0, none⟩) (lt_of_cell c0)).trans c0) ((hW.cell (p := ⟨e.p, 2, none⟩) (lt_of_cell d2)).trans d2)
      have HJL := toHid hjl
      have HCN := toHid hcn
      clear hd hj hcn hjl
      go_enter Tryz.func101, Tryz.ntmps101
      go_wp2_with fail
      go_quiet (first | (go_at_call 73; exact Calls.quiet_of (km.out _)) | (go_at_call 43; exact Calls.quiet_of_same (ko.out _)) | (go_at_call 72; exact Calls.quiet_of_same (kw.out _)) | (go_at_call 108; exact Calls.quiet_of (ky.out _)))
      go_upto_region 1 with fail
      obtain ⟨w5, hw5⟩ : ∃ w5, w5 = w.drewN nq := ⟨_, rfl⟩
      rw [← hw5]
      have hb5 : Below w.heap.size w w5 := by rw [hw5]; exact below_drewN (Below.refl _ _)
      have H5 := HH.out.below hb5
      have d10 : w5.cell? ⟨e.p, 10, none⟩ = some (.slice (some ⟨e.bC, 0, none⟩) e.nC e.cC) := H5.mem.c10
      have dj5 : ∃ u, w5.cell? ⟨e.bC, j, none⟩ = some u := ⟨_, H5.hC.cell (List.getElem?_eq_getElem (by simpa [boolsV] using HJL.out))⟩
      obtain ⟨u5, dj5⟩ := dj5
      have df5 := H5.hC.frozen j
      have ldj := lt_of_cell dj5
      have ld10 := lt_of_cell d10
      have kc : Hid (∀ W, Below w5.heap.size w5 W → Calls Tryz.prog 99 #[.pointer (some ⟨e.p, 0, none⟩), .int .i64 (y : Int)] W fun ev w' => ev = .returned (.int .i64 (j : Int)) ∧ Below w5.heap.size w5 w') := fun W hW => by
        refine (kc.out W (hb5.trans (hW.mono hb5.size))).mono ?_
        rintro ev w9 ⟨rfl, n, hq⟩
        exact ⟨rfl, by rw [hq]; exact below_drewN hW⟩
      have HB5 := toHid hb5
      have HH5 := toHid H5
      clear hw5 hb5 H5 c0 c3 dy d2
      go_region_with ((go_at_call 99; refine (kc.out _ (by first | exact (Below.refl _ _).drew | exact Below.refl _ _)).mono ?_; rintro ev w7 ⟨rfl, hb7⟩; have t10 := (hb7.cell (p := ⟨e.p, 10, none⟩) ld10).trans d10; have tj := (hb7.cell (p := ⟨e.bC, j, none⟩) ldj).trans dj5; have tf := (hb7.frozen (p := ⟨e.bC, j, none⟩) ldj).trans df5))
      all_goals go_wp2_with fail
      all_goals go_end0
      all_goals (
        have H7 := HH5.out.below hb7
        have hB7 : Blk e.bC 4 (boolsV (s.C.set j true)) (w7.setCell ⟨e.bC, j, none⟩ (.bool true)) := by
          rw [← boolsV_set]
          exact H7.hC.set (by simpa [boolsV] using HJL.out) _
        have A7 : Aside (· = e.bC) w7 (w7.setCell ⟨e.bC, j, none⟩ (.bool true)) := (Aside.refl (fun k => k = e.bC) w7).setCell (g := e.bC) rfl _
        have H8 := H7.cards A7 _ hB7
        have A8 : Aside e.own w (w7.setCell ⟨e.bC, j, none⟩ (.bool true)) := (Aside.of_below (HB5.out.trans (hb7.mono HB5.out.size))).trans (A7.mono (fun k hk => Or.inr (Or.inr (Or.inr hk))))
        refine ⟨rfl, ?_, ?_⟩
        · rw [HPU.out, HCN.out]; first | exact H8 | exact H8.below (Below.refl _ _).drew
        · first | exact A8 | exact A8.trans (Aside.of_below (Below.refl _ _).drew))
    | false =>
      rw [hyo] at ky
      have HPU : Hid (s.mark e y = s) := by show _ = _; unfold CS.mark; rw [if_neg (fun h => by rw [HX.out, hyo] at h; cases h.2)]
      clear hyo
      go_enter Tryz.func101, Tryz.ntmps101
      go_wp2_with fail
      go_quiet (first | (go_at_call 73; exact Calls.quiet_of (km.out _)) | (go_at_call 43; exact Calls.quiet_of_same (ko.out _)) | (go_at_call 72; exact Calls.quiet_of_same (kw.out _)) | (go_at_call 108; exact Calls.quiet_of (ky.out _)))
      go_wp2_with fail
      go_end0
      have hb5 : Below w.heap.size w (w.drewN nq) := below_drewN (Below.refl _ _)
      exact ⟨rfl, by rw [HPU.out]; exact HH.out.below hb5, Aside.of_below hb5⟩
  · rw [decide_eq_false hold] at kw
    have HPU : Hid (s.mark e y = s) := by show _ = _; unfold CS.mark; rw [if_neg (fun h => hold h.1)]
    go_enter Tryz.func101, Tryz.ntmps101
    go_wp2_with fail
    go_quiet (first | (go_at_call 73; exact Calls.quiet_of (km.out _)) | (go_at_call 43; exact Calls.quiet_of_same (ko.out _)) | (go_at_call 72; exact Calls.quiet_of_same (kw.out _)) | (go_at_call 108; exact Calls.quiet_of (ky.out _)))
    go_wp2_with fail
    go_end0
    have hb5 : Below w.heap.size w (w.drewN nq) := below_drewN (Below.refl _ _)
    exact ⟨rfl, by rw [HPU.out]; exact HH.out.below hb5, Aside.of_below hb5⟩
end Go.Proofs.YtnenggkgfhgcnaaGreatDoor
