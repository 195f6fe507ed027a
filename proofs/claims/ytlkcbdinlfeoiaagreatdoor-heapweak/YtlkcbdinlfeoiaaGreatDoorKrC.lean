/- Package heap by contracts: made, pointer, field. -/
import Derived.Test.YtlkcbdinlfeoiaaGreatDoorKrB
import Derived.Test.YtlkcbdinlfeoiaaGreatDoorKnAT
import Derived.Deep.AppendLies
namespace Go.Proofs.YtlkcbdinlfeoiaaGreatDoor
open Go.RowKit Go.Maps

variable {h : HP} {sr : Int} {m : MD} {w w' : World} {a : Nat → Addr} {w0 : World} {M : MO} {X : MXtra}
/-- The object that a root points to. -/
structure ObjAt (m : MD) (M : MO) (r : Nat) (c : CL) (f : Nat) (d : ND) : Prop where
  four : c.kind = 4
  has : M.N[c.ref]? = some d
  root : m.R[r]? = some (((f : Int) + 1) * 4)
  fits : f + 1 + szN (m.F f) ≤ m.W.length
  head : headB (m.F f) = true
  kind : m.F f / 4 % 256 = d.kind
  size : szN (m.F f) = if d.kind < 8 then d.raw.length else d.f.length
theorem HM.rootIs (hm : HM m sr M X) {r : Nat} {c : CL} (hj : M.R[r]? = some c) : (c.kind ≠ 4 ∧ ∃ x, m.R[r]? = some x ∧ 0 ≤ x ∧ x < 18446744073709551616 ∧ x % 4 ≠ 0) ∨ ∃ f d, ObjAt m M r c f d := by
  obtain ⟨vs, S, φ, hr, hw⟩ := hm
  have hc := List.mem_of_getElem? hj
  have hx : m.R[r]? = some (wdC φ c) := by rw [hr.rel.roots, List.getElem?_map, hj]; rfl
  by_cases h4 : c.kind = 4
  · right
    have hs := hr.rel.rin c hc h4
    obtain ⟨d, h1, hv, h3, h4', h5⟩ := hr.rel.has _ hs
    obtain ⟨k1, k2⟩ := hr.shape.fine _ hv
    refine ⟨φ c.ref, d, h4, h1, ?_, k2, k1, h3, ?_⟩
    · rw [hx]; unfold wdC; rw [if_pos h4]
    · have e : (fieldsP m.F (φ c.ref)).length = szN (m.F (φ c.ref)) := by unfold fieldsP; simp
      rw [← e, h4']
      unfold wdN
      split
      · rfl
      · rw [List.length_map]
  · left
    obtain ⟨_, k1, k2⟩ := hr.word (fun q => absurd q h4) (hr.ok.roots c hc)
    refine ⟨h4, _, hx, k1, k2, ?_⟩
    unfold wdC
    rw [if_neg h4]
    split <;> omega
theorem HS.wordAt (s : HS a w0 h sr m M X w) {f : Nat} (hf : f < m.W.length) : w.cell? ⟨h.bW, f, none⟩ = some (.int .u64 (m.F f)) := by
  refine s.at'.hW.cell ?_
  unfold wordsV MD.F
  rw [List.getElem?_map, List.getD_eq_getElem?_getD, List.getElem?_eq_getElem hf]
  rfl
theorem HS.wlen (s : HS a w0 h sr m M X w) : m.W.length ≤ 300000 := by obtain ⟨_, n1, _, n3, _, _, _, _, _, n9, _⟩ := s.nums; omega
theorem HS.range (s : HS a w0 h sr m M X w) {f : Nat} (hf : f < m.W.length) : 0 ≤ m.F f ∧ m.F f < 18446744073709551616 := by
  obtain ⟨l1, l2, rt⟩ := s.hm.right
  exact md_range rt.h64 f hf
theorem getD_some {r : Nat} {x : Int} {l : List Int} (h : l[r]? = some x) : l.getD r 0 = x ∧ r < l.length := ⟨by rw [List.getD_eq_getElem?_getD, h]; rfl, (List.getElem?_eq_some_iff.1 h).1⟩
theorem HS.objectOk (s : HS a w0 h sr m M X w) {r f : Nat} {c : CL} {d : ND} (o : ObjAt m M r c f d) : Calls Tryz.prog 121 #[.pointer (some ⟨h.q, 0, none⟩), .int .u64 (((f : Int) + 1) * 4)] w fun ev w' => ev = .returned (.tuple #[.int .i64 (f : Int), headV (m.F f), .bool true]) ∧ Below w.heap.size w w' := by
  have hf : f < m.W.length := by have := o.fits; omega
  obtain ⟨k0, k1⟩ := s.range hf
  exact hobject_ok h.q h.p h.bW m.W.length h.cW f (m.F f) hf s.wlen k0 k1 o.head w s.at'.c0 s.at'.cm.c3 (s.wordAt hf)
set_option maxHeartbeats 2000000 in
set_option maxRecDepth 100000 in
theorem hmade_ok (s : HS a w0 h sr m M X w) {r f : Nat} {c : CL} {d : ND} (o : ObjAt m M r c f d) (h8 : ¬ d.kind < 8) :
    Calls Tryz.prog 122 #[.pointer (some ⟨h.q, 0, none⟩), .int .i64 (r : Int)] w fun ev w' => ev = .returned (.tuple #[.int .i64 ((f : Int) + 1), .int .i64 (szN (m.F f) : Int), .nilIface]) ∧ Below w.heap.size w w' := by
  obtain ⟨e1, hr⟩ := getD_some o.root
  have kr := s.rootOk hr
  rw [e1] at kr
  have hwl := s.wlen
  have hfl := o.fits
  have ko := s.objectOk o
  unfold headV at ko
  have hsz : m.F f / 65536 = (szN (m.F f) : Int) := by
    have hf : f < m.W.length := by omega
    have := (s.range hf).1
    unfold szN; omega
  rw [hsz, o.kind] at ko
  have kd0 : 0 ≤ d.kind := by have := o.kind; omega
  have kraw := fun w => raw_any d.kind kd0 w
  rw [decide_eq_false h8] at kraw
  have ew : IntKind.i64.wrap ((f : Int) + 1) = (f : Int) + 1 := wrapI _ (by omega) (by omega)
  obtain ⟨q, hq⟩ : ∃ q, q = h.q := ⟨_, rfl⟩
  rw [← hq] at kr ko ⊢
  obtain ⟨x, hx⟩ : ∃ x, x = ((f : Int) + 1) * 4 := ⟨_, rfl⟩
  rw [← hx] at kr ko
  generalize m.F f / 1024 % 16 = g1 at ko
  generalize m.F f / 16384 % 2 = g2 at ko
  generalize szN (m.F f) = sz at *
  generalize d.kind = kd at *
  clear s o hx hq hr h8 kd0 hsz hfl
  go_enter Tryz.func122, Tryz.ntmps122
  go_wp2_with fail
  refine kr.mono ?_
  clear kr
  rintro ev w1 ⟨rfl, rfl⟩
  go_wp2_with fail
  refine ko.mono ?_
  clear ko
  rintro ev w2 ⟨rfl, b2⟩
  have HB2 := toHid b2
  obtain ⟨w3, hw3⟩ : ∃ w3, w3 = w2.alloc (.cells #[.int .i64 kd, .int .i64 g1, .int .i64 g2, .int .i64 (sz : Int)] 172) := ⟨_, rfl⟩
  have n3 : w3.heap[w2.heap.size]? = some (.cells #[.int .i64 kd, .int .i64 g1, .int .i64 g2, .int .i64 (sz : Int)] 172) := by rw [hw3]; exact heap_alloc_new _ _
  have HB3 : Hid (Below w1.heap.size w1 w3) := by rw [hw3]; exact HB2.out.alloc HB2.out.size _
  obtain ⟨r0, r1, r2, r3, rf⟩ := head_block n3
  have HW3 := toHid hw3
  clear b2 hw3 n3 rf
  go_upto_region 5 with fail
  rw [← HW3.out]
  go_wp2_with fail
  refine (kraw _).mono ?_
  rintro ev w4 ⟨rfl, e4⟩
  rw [e4]
  clear e4 w4 kraw
  go_wp2_with fail
  go_quiet (fail)
  go_wp2_with fail
  go_ret3
  exact ⟨rfl, below_drewN HB3.out⟩
set_option maxHeartbeats 2000000 in
set_option maxRecDepth 100000 in
theorem hfield_ok (s : HS a w0 h sr m M X w) {r f k : Nat} {c : CL} {d : ND} (o : ObjAt m M r c f d) (h8 : ¬ d.kind < 8) (hk : k < d.f.length) :
    Calls Tryz.prog 74 #[.pointer (some ⟨h.q, 0, none⟩), .int .i64 (r : Int), .int .i64 (k : Int)] w fun ev w' => ev = .returned (.tuple #[.int .i64 ((f + 1 + k : Nat) : Int), .nilIface]) ∧ Below w.heap.size w w' := by
  have km := hmade_ok s o h8
  have hsz : szN (m.F f) = d.f.length := by rw [o.size, if_neg h8]
  have hwl := s.wlen
  have hfl := o.fits
  rw [hsz] at km hfl
  have kw := fun w => hwithin_any (k : Int) 0 ((d.f.length : Int) - 1) w
  rw [show (decide (0 ≤ (k : Int)) && decide ((k : Int) ≤ (d.f.length : Int) - 1)) = true by simp; omega] at kw
  have e1 : IntKind.i64.wrap ((d.f.length : Int) - 1) = (d.f.length : Int) - 1 := wrapI _ (by omega) (by omega)
  have e2 : IntKind.i64.wrap ((f : Int) + 1 + (k : Int)) = ((f + 1 + k : Nat) : Int) := by rw [wrapI _ (by omega) (by omega)]; omega
  obtain ⟨q, hq⟩ : ∃ q, q = h.q := ⟨_, rfl⟩
  rw [← hq] at km ⊢
  generalize d.f.length = L at *
  obtain ⟨z, hz⟩ : ∃ z : Int, z = ((f + 1 + k : Nat) : Int) := ⟨_, rfl⟩
  rw [← hz] at e2 ⊢
  clear s o hq h8 hsz hz hfl hk
  go_enter Tryz.func74, Tryz.ntmps74
  go_wp2_with fail
  refine km.mono ?_
  clear km
  rintro ev w1 ⟨rfl, b1⟩
  have HB1 := toHid b1
  clear b1
  go_wp2_with fail
  refine (kw _).mono ?_
  rintro ev w4 ⟨rfl, e4⟩
  rw [e4]
  clear e4 w4 kw
  go_wp2_with fail
  go_ret2
  exact ⟨rfl, HB1.out⟩
set_option maxHeartbeats 2000000 in
set_option maxRecDepth 100000 in
theorem hpointer_ok (s : HS a w0 h sr m M X w) {r f : Nat} {c : CL} {d : ND} (o : ObjAt m M r c f d) :
    Calls Tryz.prog 72 #[.pointer (some ⟨h.q, 0, none⟩), .int .i64 (r : Int)] w fun ev w' => ev = .returned (.tuple #[.int .u64 (((f : Int) + 1) * 4), .nilIface]) ∧ Below w.heap.size w w' := by
  obtain ⟨e1, hr⟩ := getD_some o.root
  have kr := s.rootOk hr
  rw [e1] at kr
  have ko := s.objectOk o
  unfold headV at ko
  obtain ⟨q, hq⟩ : ∃ q, q = h.q := ⟨_, rfl⟩
  rw [← hq] at kr ko ⊢
  obtain ⟨x, hx⟩ : ∃ x, x = ((f : Int) + 1) * 4 := ⟨_, rfl⟩
  rw [← hx] at kr ko ⊢
  generalize m.F f / 1024 % 16 = g1 at ko
  generalize m.F f / 16384 % 2 = g2 at ko
  generalize m.F f / 65536 = sz at ko
  generalize m.F f / 4 % 256 = kd at ko
  clear s o hx hq hr
  go_enter Tryz.func72, Tryz.ntmps72
  go_wp2_with fail
  refine kr.mono ?_
  clear kr
  rintro ev w1 ⟨rfl, rfl⟩
  go_wp2_with fail
  refine ko.mono ?_
  clear ko
  rintro ev w2 ⟨rfl, b2⟩
  have HB3 : Hid (Below w1.heap.size w1 (w2.alloc (.cells #[.int .i64 kd, .int .i64 g1, .int .i64 g2, .int .i64 sz] 172))) := b2.alloc b2.size _
  clear b2
  go_wp2_with fail
  go_ret2
  exact ⟨rfl, HB3.out⟩
end Go.Proofs.YtlkcbdinlfeoiaaGreatDoor
namespace Go.Proofs.YtlkcbdinlfeoiaaGreatDoor
open Go.RowKit Go.Maps

variable {h : HP} {sr : Int} {m : MD} {w w' : World} {a : Nat → Addr} {w0 : World} {M : MO} {X : MXtra}
/-- A card is set. -/
theorem HAt.setCard (H : HAt h sr m w) {j : Nat} (hj : j < m.C.length) (x : Bool) : HAt h sr (m.setC j x) (w.setCell ⟨h.bC, j, none⟩ (.bool x)) := by
  have tC := H.tC
  have ha : Aside (fun k => k = h.bC) w (w.setCell ⟨h.bC, j, none⟩ (.bool x)) := (Aside.refl (fun k => k = h.bC) w).setCell (g := h.bC) rfl _
  have hs := H.hC.set (j := j) (by unfold boolsV; rw [List.length_map]; exact hj) (.bool x)
  refine ⟨(ha.block _ H.tq.lt (H.tq.ne tC (by decide))).trans H.hq, ?_, H.hW.aside ha (H.tW.ne tC (by decide)), ?_, H.cap, ?_, H.R.aside ha (fun g hg => (rowB_ty H.R hg).ne tC (by decide)), ?_, ?_, H.rk, H.rb, H.kb⟩
  · show MB _ _ _ _ _ _ _ _ _ _ _ (.slice _ (m.C.set j x).length _) _
    rw [List.length_set]
    exact (ha.block _ H.tp.lt (H.tp.ne tC (by decide))).trans H.mb
  · show Blk _ _ (boolsV (m.C.set j x)) _
    rw [← boolsV_set]; exact hs
  · show (m.C.set j x).length ≤ _
    rw [List.length_set]; exact H.capC
  · exact ownsRow_far' H.K (fun k hk => ha.block k (own_lt2 H.K k hk).2 ((own_ty H.K hk).ne tC (by decide)))
  · exact ownsRow_far' H.I (fun k hk => ha.block k (own_lt2 H.I k hk).2 ((own_ty H.I hk).ne tC (by decide)))
theorem HAt.cardAt (H : HAt h sr m w) {j : Nat} (hj : j < m.C.length) : w.cell? ⟨h.bC, j, none⟩ = some (.bool (m.Cf j)) := by
  refine H.hC.cell ?_
  unfold boolsV MD.Cf
  rw [List.getElem?_map, List.getD_eq_getElem?_getD, List.getElem?_eq_getElem hj]
  rfl
set_option maxHeartbeats 4000000 in
set_option maxRecDepth 100000 in
theorem hmark_any (H : HAt h sr m w) (hF : m.FitsM) (y : Nat) (hyl : y < m.W.length) (x : Int) (hx : m.F y = x) (x0 : 0 ≤ x) (x1 : x < 18446744073709551616) (E : WErr a w) :
    Calls Tryz.prog 75 #[.pointer (some ⟨h.p, 0, none⟩), .int .i64 (y : Int)] w fun ev w' => ev = .returned (.tuple #[]) ∧ HAt h sr (m.mark y) w' ∧ Nxt h h w w' := by
  have hnum := hF.nums
  unfold numsOK at hnum
  have hw := hF.w
  have hy3 : y ≤ 300000 := by omega
  have dy : w.cell? ⟨h.bW, y, none⟩ = some (.int .u64 x) := by
    refine H.hW.cell ?_
    rw [← hx]
    unfold wordsV MD.F
    rw [List.getElem?_map, List.getD_eq_getElem?_getD, List.getElem?_eq_getElem hyl]
    rfl
  have M0 := H.cm
  obtain ⟨bx, hbx⟩ : ∃ bx, bx = h.p := ⟨_, rfl⟩
  obtain ⟨g, hg⟩ : ∃ g, g = h.bW := ⟨_, rfl⟩
  obtain ⟨gc, hgc⟩ : ∃ gc, gc = h.bC := ⟨_, rfl⟩
  rw [← hbx, ← hg, ← hgc] at M0
  rw [← hg] at dy
  have c0 : w.cell? ⟨bx, 0, none⟩ = some (.int .i64 m.half) := M0.c0
  have c3 := M0.c3
  have km : Hid (∀ q, Calls Tryz.prog 123 #[.pointer (some ⟨bx, 0, none⟩)] (w.drewN q) fun ev w' => ev = .returned (.bool true) ∧ ∃ n, w' = (w.drewN q).drewN n) := fun q => measured_ok bx m.half m.old m.card m.W.length m.C.length h.cW h.cC _ _ m.used m.top m.oldTop _ _ _ hF (w.drewN q) (M0.below (below_drewN (Below.refl _ _)) (lt_of_cell c0))
  have ko : Hid (∀ q, Calls Tryz.prog 85 #[.pointer (some ⟨bx, 0, none⟩)] (w.drewN q) fun ev w' => ev = .returned (.int .i64 (2 * m.half)) ∧ w' = w.drewN q) := fun q => oldFrom_any bx m.half (by omega) (by omega) (w.drewN q) c0
  have ky : Hid (∀ q, Calls Tryz.prog 125 #[.pointer (some ⟨bx, 0, none⟩), .int .u64 x] (w.drewN q) fun ev w' => ev = .returned (.bool (youngB m.half x)) ∧ ∃ n, w' = (w.drewN q).drewN n) := fun q => young_any a bx m.half x (by omega) (by omega) x0 x1 (w.drewN q) (E.below (below_drewN (Below.refl _ _))) c0
  have kw : Hid (∀ W, Calls Tryz.prog 124 #[.int .i64 (y : Int), .int .i64 (2 * m.half), .int .i64 ((m.W.length : Int) - 1)] W fun ev w' => ev = .returned (.bool (decide (2 * m.half ≤ (y : Int)))) ∧ w' = W) := fun W => by
    have h := mwithin_any (y : Int) (2 * m.half) ((m.W.length : Int) - 1) W
    rw [decide_eq_true (show (y : Int) ≤ (m.W.length : Int) - 1 by omega), Bool.and_true] at h
    exact h
  have e1 : IntKind.i64.wrap ((m.W.length : Int) - 1) = (m.W.length : Int) - 1 := wrapI _ (by omega) (by omega)
  have hI : (y : Int) < (m.W.length : Int) := by omega
  have hI0 : (0 : Int) ≤ (y : Int) := by omega
  have HX := toHid hx
  have HH := toHid H
  have HG := toHid hgc
  rw [← hbx]
  clear H E hx hw hbx hg
  by_cases hold : 2 * m.half ≤ (y : Int)
  · rw [decide_eq_true hold] at kw
    cases hyo : youngB m.half x with
    | true =>
      rw [hyo] at ky
      have HPU : Hid (m.mark y = m.setC (cardN m.half m.card y) true) := by show _ = _; unfold MD.mark; rw [if_pos ⟨hold, by rw [HX.out]; exact hyo⟩]
      clear hyo
      obtain ⟨d, j, hd, hj, hjl, hcn⟩ := card_ix hF hold hyl
      have d2 : w.cell? ⟨bx, 2, none⟩ = some (.int .i64 m.card) := M0.c2
      have d10 : w.cell? ⟨bx, 10, none⟩ = some (.slice (some ⟨gc, 0, none⟩) m.C.length h.cC) := M0.c10
      have dj : w.cell? ⟨gc, j, none⟩ = some (.bool (m.Cf j)) := by rw [HG.out]; exact HH.out.cardAt hjl
      have dfj : w.frozen? ⟨gc, j, none⟩ = false := by rw [HG.out]; exact HH.out.hC.frozen j
      have hJ : (j : Int) < (m.C.length : Int) := by omega
      have hJ0 : (0 : Int) ≤ (j : Int) := by omega
      have HCN := toHid hcn
      have HJL := toHid hjl
      have kc : Hid (∀ W, Below w.heap.size w W → Calls Tryz.prog 126 #[.pointer (some ⟨bx, 0, none⟩), .int .i64 (y : Int)] W fun ev w' => ev = .returned (.int .i64 (j : Int)) ∧ ∃ n, w' = W.drewN n) := fun W hW => cardOf_any bx m.half m.card y d j (by omega) (by omega) (by omega) hy3 hd hj W ((hW.cell (p := ⟨bx, 0, none⟩) (lt_of_cell c0)).trans c0) ((hW.cell (p := ⟨bx, 2, none⟩) (lt_of_cell d2)).trans d2)
      clear hd hj hcn hgc M0
      go_enter Tryz.func75, Tryz.ntmps75
      go_wp2_with fail
      go_quiet (first | (go_at_call 123; exact Calls.quiet_of (km.out _)) | (go_at_call 85; exact Calls.quiet_of_same (ko.out _)) | (go_at_call 124; exact Calls.quiet_of_same (kw.out _)) | (go_at_call 125; exact Calls.quiet_of (ky.out _)))
      go_upto_region 1 with fail
      obtain ⟨w5, hw5⟩ : ∃ w5, w5 = w.drewN nq := ⟨_, rfl⟩
      rw [← hw5]
      have hb5 : Below w.heap.size w w5 := by rw [hw5]; exact below_drewN (Below.refl _ _)
      have d10 : w5.cell? ⟨bx, 10, none⟩ = some (.slice (some ⟨gc, 0, none⟩) m.C.length h.cC) := (hb5.cell (p := ⟨bx, 10, none⟩) (lt_of_cell d10)).trans d10
      have dj5 : w5.cell? ⟨gc, j, none⟩ = some (.bool (m.Cf j)) := (hb5.cell (p := ⟨gc, j, none⟩) (lt_of_cell dj)).trans dj
      have df5 := (hb5.frozen (p := ⟨gc, j, none⟩) (lt_of_cell dj)).trans dfj
      have ldj := lt_of_cell dj5
      have ld10 := lt_of_cell d10
      have kc : Hid (∀ W, Below w5.heap.size w5 W → Calls Tryz.prog 126 #[.pointer (some ⟨bx, 0, none⟩), .int .i64 (y : Int)] W fun ev w' => ev = .returned (.int .i64 (j : Int)) ∧ Below w5.heap.size w5 w') := fun W hW => by
        refine (kc.out W (hb5.trans (hW.mono hb5.size))).mono ?_
        rintro ev w9 ⟨rfl, n, hq⟩
        exact ⟨rfl, by rw [hq]; exact below_drewN hW⟩
      have HB5 := toHid hb5
      clear hw5 hb5 c0 c3 dy dj dfj d2
      go_region_with ((go_at_call 126; refine (kc.out _ (by first | exact (Below.refl _ _).drew | exact Below.refl _ _)).mono ?_; rintro ev w7 ⟨rfl, hb7⟩; have t10 := (hb7.cell (p := ⟨bx, 10, none⟩) ld10).trans d10; have tj := (hb7.cell (p := ⟨gc, j, none⟩) ldj).trans dj5; have tf := (hb7.frozen (p := ⟨gc, j, none⟩) ldj).trans df5))
      all_goals go_wp2_with fail
      all_goals go_end0
      all_goals (
        have H7 := (HH.out.below (HB5.out.trans (hb7.mono HB5.out.size))).setCard HJL.out true
        have N7 : Nxt h h w (w7.setCell ⟨h.bC, j, none⟩ (.bool true)) := (Nxt.of_below h (HB5.out.trans (hb7.mono HB5.out.size))).set (.inl (.inr (.inr (.inr (.inl rfl)))))
        rw [← HG.out] at H7 N7
        refine ⟨rfl, ?_, ?_⟩
        · rw [HPU.out, HCN.out]; first | exact H7 | exact H7.below (Below.refl _ _).drew
        · first | exact N7 | exact N7.below (Below.refl _ _).drew)
    | false =>
      rw [hyo] at ky
      have HPU : Hid (m.mark y = m) := by show _ = _; unfold MD.mark; rw [if_neg (fun h => by rw [HX.out, hyo] at h; cases h.2)]
      clear hyo M0
      go_enter Tryz.func75, Tryz.ntmps75
      go_wp2_with fail
      go_quiet (first | (go_at_call 123; exact Calls.quiet_of (km.out _)) | (go_at_call 85; exact Calls.quiet_of_same (ko.out _)) | (go_at_call 124; exact Calls.quiet_of_same (kw.out _)) | (go_at_call 125; exact Calls.quiet_of (ky.out _)))
      go_wp2_with fail
      go_end0
      have hb5 : Below w.heap.size w (w.drewN nq) := below_drewN (Below.refl _ _)
      exact ⟨rfl, by rw [HPU.out]; exact HH.out.below hb5, Nxt.of_below h hb5⟩
  · rw [decide_eq_false hold] at kw
    have HPU : Hid (m.mark y = m) := by show _ = _; unfold MD.mark; rw [if_neg (fun h => hold h.1)]
    clear M0
    go_enter Tryz.func75, Tryz.ntmps75
    go_wp2_with fail
    go_quiet (first | (go_at_call 123; exact Calls.quiet_of (km.out _)) | (go_at_call 85; exact Calls.quiet_of_same (ko.out _)) | (go_at_call 124; exact Calls.quiet_of_same (kw.out _)) | (go_at_call 125; exact Calls.quiet_of (ky.out _)))
    go_wp2_with fail
    go_end0
    have hb5 : Below w.heap.size w (w.drewN nq) := below_drewN (Below.refl _ _)
    exact ⟨rfl, by rw [HPU.out]; exact HH.out.below hb5, Nxt.of_below h hb5⟩
end Go.Proofs.YtlkcbdinlfeoiaaGreatDoor
namespace Go.Proofs.YtlkcbdinlfeoiaaGreatDoor
open Go.RowKit Go.Maps

variable {h : HP} {sr : Int} {m : MD} {w w' : World} {a : Nat → Addr} {w0 : World} {M : MO} {X : MXtra}
def MO.putN (M : MO) (i : Nat) (d : ND) (k : Nat) (v : CL) : MO := { M with N := M.N.set i { d with f := d.f.set k v } }
theorem setW_FH {m : MD} {y : Nat} {x : Int} (h : y < m.W.length) : (m.setW y x).F y = x := by
  unfold MD.F MD.setW
  show (m.W.set y x).getD y 0 = x
  rw [List.getD_eq_getElem?_getD, List.getElem?_set_self h]
  rfl
theorem put_markH {m : MD} {y : Nat} {x : Int} (h : y < m.W.length) : m.put y x = (m.setW y x).mark y := by
  unfold MD.put MD.mark
  rw [setW_FH h]
  rfl
theorem setW_fits {y : Nat} {x : Int} (F : m.FitsM) : (m.setW y x).FitsM := by
  unfold MD.FitsM MD.setW at *
  show Fits m.half m.old m.card (m.W.set y x).length m.C.length m.used m.top m.oldTop
  rw [List.length_set]
  exact F
theorem HAt.setWord (H : HAt h sr m w) {y : Nat} (hy : y < m.W.length) (x : Int) : HAt h sr (m.setW y x) (w.setCell ⟨h.bW, y, none⟩ (.int .u64 x)) := by
  have hs := H.hW.set (j := y) (by rw [lenV]; exact hy) (.int .u64 x)
  rw [wordsV_set] at hs
  exact H.words (by rw [List.length_set]) ((Aside.refl (fun k => k = h.bW) w).setCell (g := h.bW) rfl _) hs
set_option maxHeartbeats 2000000 in
set_option maxRecDepth 100000 in
theorem hput_any (s : HS a w0 h sr m M X w) {r k j : Nat} {c v : CL} {d : ND} (hj : M.R[r]? = some c) (h4 : c.kind = 4) (hd : M.N[c.ref]? = some d) (h8 : ¬ d.kind < 8) (hk : k < d.f.length) (hq : M.R[j]? = some v) :
    Calls Tryz.prog 30 #[.pointer (some ⟨h.q, 0, none⟩), .int .i64 (r : Int), .int .i64 (k : Int), .int .i64 (j : Int)] w fun ev w' => ev = .returned .nilIface ∧ Stp a w0 h m (M.putN c.ref d k v) X w w' := by
  obtain ⟨f, x, e1, e2, e3, _, _, _, hm⟩ := s.hm.put hj h4 hd h8 hk hq
  obtain ⟨f', d', o⟩ : ∃ f d', ObjAt m M r c f d' := by
    rcases s.hm.rootIs hj with ⟨q, _⟩ | q
    · exact absurd h4 q
    · exact q
  obtain rfl : d = d' := by have := o.has; rw [hd] at this; exact Option.some.inj this
  obtain rfl : f = f' := by have := o.root; rw [e1] at this; have := Option.some.inj this; omega
  obtain ⟨g2, hjl⟩ := getD_some e2
  have kr := s.rootOk hjl
  rw [g2] at kr
  have kf := hfield_ok s o h8 hk
  obtain ⟨l1, l2, rt⟩ := s.hm.right
  have hxr := rt.h64.r x (List.mem_of_getElem? e2)
  have hWl := s.wlen
  obtain ⟨y, hy⟩ : ∃ y, y = f + 1 + k := ⟨_, rfl⟩
  rw [← hy] at e3 hm kf
  have HMk : Hid (∀ w1, HAt h sr (m.setW y x) w1 → WErr a w1 → Calls Tryz.prog 75 #[.pointer (some ⟨h.p, 0, none⟩), .int .i64 (y : Int)] w1 fun ev w' => ev = .returned (.tuple #[]) ∧ HAt h sr (m.put y x) w' ∧ Nxt h h w1 w') := fun w1 H1 E1 => by
    have hx := hmark_any H1 (setW_fits rt.S.1) y (by show y < (m.W.set y x).length; rw [List.length_set]; exact e3) x (setW_FH e3) hxr.1 hxr.2 E1
    rw [← put_markH e3] at hx
    exact hx
  have HIS : Hid (∀ w', Nxt h h w w' → HAt h sr (m.put y x) w' → Stp a w0 h m (M.putN c.ref d k v) X w w') := fun w' N H => by
    refine ⟨h, sr, _, N, ?_, s.next N H hm s.kl s.rl⟩
    rw [put_eqH]
    exact ⟨rfl, rfl, rfl⟩
  have HSS := toHid s
  obtain ⟨q, hq'⟩ : ∃ q, q = h.q := ⟨_, rfl⟩
  obtain ⟨p, hp⟩ : ∃ p, p = h.p := ⟨_, rfl⟩
  obtain ⟨b, hb⟩ : ∃ b, b = h.bW := ⟨_, rfl⟩
  have HB := toHid hb
  have HC : Hid (∀ W, Nxt h h w W → HAt h sr m W → W.cell? ⟨q, 0, none⟩ = some (.pointer (some ⟨p, 0, none⟩)) ∧ W.cell? ⟨p, 3, none⟩ = some (.slice (some ⟨b, 0, none⟩) m.W.length h.cW)) := fun W _ H => ⟨by rw [hq', hp]; exact H.c0, by rw [hp, hb]; exact H.cm.c3⟩
  have HP0 := toHid hp
  have HQ := toHid hq'
  rw [← hq'] at kr kf ⊢
  rw [← hp] at HMk
  have hI : (y : Int) < (m.W.length : Int) := by omega
  have hI0 : (0 : Int) ≤ (y : Int) := by omega
  have HY := toHid e3
  clear s e1 o g2 hjl rt hxr hy hm hq' hp hb hj h4 hd h8 hk hq e2 e3
  go_enter Tryz.func30, Tryz.ntmps30
  go_wp2_with fail
  refine kr.mono ?_
  clear kr
  rintro ev w1 ⟨rfl, rfl⟩
  go_wp2_with fail
  refine kf.mono ?_
  clear kf
  rintro ev w2 ⟨rfl, b2⟩
  have s2 := HSS.out.below b2
  obtain ⟨d0, d3⟩ := HC.out w2 (Nxt.of_below h b2) s2.at'
  have cy : w2.cell? ⟨b, y, none⟩ = some (.int .u64 (m.F y)) := by rw [HB.out]; exact s2.wordAt HY.out
  have fy : w2.frozen? ⟨b, y, none⟩ = false := by rw [HB.out]; exact s2.at'.hW.frozen y
  have H3 : HAt h sr (m.setW y x) (w2.setCell ⟨b, y, none⟩ (.int .u64 x)) := by rw [HB.out]; exact s2.at'.setWord HY.out x
  have N3 : Nxt h h w1 (w2.setCell ⟨b, y, none⟩ (.int .u64 x)) := (Nxt.of_below h b2).set (.inl (.inr (.inr (.inl HB.out))))
  have d0' : (w2.setCell ⟨b, y, none⟩ (.int .u64 x)).cell? ⟨q, 0, none⟩ = some (.pointer (some ⟨p, 0, none⟩)) := by rw [HQ.out, HP0.out]; exact H3.c0
  have E3 := (HSS.out.aenv N3.aside).we
  have km := HMk.out _ H3 E3
  have HH3 := toHid H3
  have HN3 := toHid N3
  clear b2 s2 H3 N3 E3
  go_upto_region 8 with fail
  generalize w2.setCell ⟨b, y, none⟩ (.int .u64 x) = w3 at *
  clear d0 d3 cy fy
  go_wp2_with fail
  refine km.mono ?_
  clear km
  rintro ev w4 ⟨rfl, H4, N4⟩
  have HE := toHid (HIS.out w4 (HN3.out.trans N4) H4)
  clear H4 N4
  go_wp2_with fail
  go_ret
  exact ⟨rfl, HE.out⟩
set_option maxHeartbeats 1000000 in
set_option maxRecDepth 100000 in
theorem hmajor_any (s : HS a w0 h sr m M X w) : Calls Tryz.prog 27 #[.pointer (some ⟨h.q, 0, none⟩)] w fun ev w' => (ev = .returned (errV a 5) ∧ Below w.heap.size w w' ∧ m.old < (M.words : Int)) ∨ (ev = .returned .nilIface ∧ StpJ a w0 h m M X w w') := by
  have k := smajor_any s
  clear s
  go_enter Tryz.func27, Tryz.ntmps27
  go_wp2_with fail
  refine k.mono ?_
  clear k
  rintro ev w1 (⟨rfl, hP⟩ | ⟨rfl, hP⟩)
  · have HP' := toHid hP
    clear hP
    go_wp2_with fail
    first | go_ret | skip
    exact .inl ⟨rfl, HP'.out⟩
  · have HP' := toHid hP
    clear hP
    go_wp2_with fail
    first | go_ret | skip
    exact .inr ⟨rfl, HP'.out⟩
end Go.Proofs.YtlkcbdinlfeoiaaGreatDoor
namespace Go.Proofs.YtlkcbdinlfeoiaaGreatDoor
open Go.RowKit Go.Maps

variable {h : HP} {sr : Int} {m : MD} {w w' : World} {a : Nat → Addr} {w0 : World} {M : MO} {X : MXtra}
theorem hnew_hs (a : Nat → Addr) (half old card tn : Int) (n : Nat) (w : World) (E : HEnv a w) (H : heapOK half old card tn n) :
    Calls Tryz.prog 11 #[.agg #[.int .i64 half, .int .i64 old, .int .i64 card, .int .i64 tn], .int .i64 (n : Int)] w fun ev w' => ∃ h m, ev = .returned (.tuple #[.pointer (some ⟨h.q, 0, none⟩), .nilIface]) ∧ HS a w h 0 m (MO.new n) MXtra.new w' ∧ m.half = half ∧ m.old = old ∧ m.card = card := by
  obtain ⟨hn, t0, t1, r0, r1⟩ := H
  have hn' := hn
  unfold numsOK at hn'
  have hq0 : 0 ≤ (old + card - 1) / card := Int.ediv_nonneg (by omega) (by omega)
  obtain ⟨nW, hW⟩ : ∃ nW : Nat, (nW : Int) = 2 * half + old := ⟨(2 * half + old).toNat, by omega⟩
  obtain ⟨nC, hC⟩ : ∃ nC : Nat, (nC : Int) = (old + card - 1) / card := ⟨((old + card - 1) / card).toNat, by omega⟩
  refine (hnew_ok half old card tn n nW nC hW hC ⟨hn, t0, t1, r0, r1⟩ w).mono ?_
  rintro ev w' ⟨q, p, g, rfl, k1, k2, k3, hb, I⟩
  have eW : Array.replicate nW (Value.int .u64 0) = (wordsV (List.replicate nW 0)).toArray := by unfold wordsV; simp
  have eR : Array.replicate n (Value.int .u64 2) = (wordsV (List.replicate n 2)).toArray := by unfold wordsV; simp
  have eC : Array.replicate nC (Value.bool false) = (boolsV (List.replicate nC false)).toArray := by unfold boolsV; simp
  refine ⟨⟨q, p, p + 1, p + 2, nW, nC, tn, .slice (some ⟨g, 0, none⟩) n n, .slice none 0 0, .slice none 0 0⟩, newM half old card nW nC n, rfl, ⟨⟨I.hq, ?_, ⟨[], ?_⟩, ⟨[], ?_⟩, ?_, ?_, ?_, ⟨rfl, .inl ⟨rfl, rfl⟩⟩, ⟨rfl, .inl ⟨rfl, rfl⟩⟩, ?_, ?_, ?_⟩, newHM hn hW hC, E, hb, ?_, t0, t1, ?_, ?_⟩, rfl, rfl, rfl⟩
  · unfold MB
    have h := I.hp
    show _ = some (Obj.cells #[_, _, _, .slice _ (List.replicate nW (0 : Int)).length _, _, _, _, _, _, _, .slice _ (List.replicate nC false).length _] _)
    rw [List.length_replicate, List.length_replicate]
    exact h
  · rw [List.append_nil]
    show _ = some (Obj.cells (wordsV (List.replicate nW 0)).toArray _)
    rw [← eW]; exact I.hW
  · rw [List.append_nil]
    show _ = some (Obj.cells (boolsV (List.replicate nC false)).toArray _)
    rw [← eC]; exact I.hC
  · show (List.replicate nW (0 : Int)).length ≤ nW
    simp
  · show (List.replicate nC false).length ≤ nC
    simp
  · refine ⟨some ⟨g, 0, none⟩, n, ?_, ?_, ?_, fun _ => ⟨g, rfl, [], ?_⟩⟩
    · show Value.slice _ n n = Value.slice _ (List.replicate n (2 : Int)).length n
      rw [List.length_replicate]
    · show (List.replicate n (2 : Int)).length ≤ n
      simp
    · show (wordsV (List.replicate n 2)).length = (List.replicate n (2 : Int)).length * 1
      rw [lenV]; simp
    · rw [List.append_nil]
      show _ = some (Obj.cells (wordsV (List.replicate n 2)).toArray _)
      rw [← eR]; exact I.hR
  · intro g' _ e
    cases e
  · intro g' hg e
    have e1 := isOf_row hg
    have e : g' = p + 1 := e
    omega
  · intro e
    cases e
  · intro k hk
    rcases hk with hk | hk | hk | hk | hk | hk | hk
    · have hk : k = q := hk; omega
    · have hk : k = p := hk; omega
    · have hk : k = p + 1 := hk; omega
    · have hk : k = p + 2 := hk; omega
    · have e1 := isOf_row hk; omega
    · cases hk
    · cases hk
  · show 0 ≤ 5000
    omega
  · show (List.replicate n _).length ≤ 5000
    rw [List.length_replicate]; omega
/-- A chain of objects, each of which holds the one ahead of it. -/
structure Ring (M : MO) (i : Nat) : Prop where
  r0 : M.R[0]? = some ⟨4, 0, 0⟩
  r1 : M.R[1]? = some ⟨4, 0, i - 1⟩
  rl : M.R.length = 3
  nl : M.N.length = i
  n0 : M.N[0]? = some (mkN 9 1)
  nk : ∀ k, 0 < k → k < i → M.N[k]? = some ⟨9, [], [⟨4, 0, k - 1⟩]⟩
theorem total_two {M : MO} (h : ∀ d ∈ M.N, ndW d = 2) : M.total = 2 * M.N.length := by
  unfold MO.total
  have : ∀ l : List ND, (∀ d ∈ l, ndW d = 2) → (l.map ndW).sum = 2 * l.length := fun l hl => by
    induction l with
    | nil => rfl
    | cons d l ih =>
      rw [List.map_cons, List.sum_cons, hl d (by simp), ih (fun x hx => hl x (by simp [hx])), List.length_cons]
      omega
  exact this M.N h
theorem Ring.total {i : Nat} (R : Ring M i) : M.total = 2 * i := by
  rw [total_two (fun d hd => ?_), R.nl]
  obtain ⟨k, hk⟩ := List.getElem?_of_mem hd
  have hl := (List.getElem?_eq_some_iff.1 hk).1
  rw [R.nl] at hl
  rcases Nat.eq_zero_or_pos k with rfl | h0
  · rw [R.n0] at hk; cases hk; rfl
  · rw [R.nk k h0 hl] at hk; cases hk; rfl
theorem Ring.begin : Ring (((MO.new 3).made 0 (mkN 9 1)).set 1 ⟨4, 0, 0⟩) 1 := ⟨rfl, rfl, rfl, rfl, rfl, fun k h0 h1 => by omega⟩
/-- One object more. -/
def ringM (M : MO) (i : Nat) : MO := (((M.made 2 (mkN 9 1)).putN i (mkN 9 1) 0 ⟨4, 0, i - 1⟩).set 1 ⟨4, 0, i⟩)
theorem Ring.next {i : Nat} (hi : 1 ≤ i) (R : Ring M i) : (M.made 2 (mkN 9 1)).R[2]? = some ⟨4, 0, i⟩ ∧ (M.made 2 (mkN 9 1)).N[i]? = some (mkN 9 1) ∧ (M.made 2 (mkN 9 1)).R[1]? = some ⟨4, 0, i - 1⟩ ∧ Ring (ringM M i) (i + 1) := by
  have hR : (M.made 2 (mkN 9 1)).R = M.R.set 2 ⟨4, 0, i⟩ := by show M.R.set 2 ⟨4, 0, M.N.length⟩ = _; rw [R.nl]
  have hN : (M.made 2 (mkN 9 1)).N = M.N ++ [mkN 9 1] := rfl
  have hN2 : (ringM M i).N = M.N ++ [⟨9, [], [⟨4, 0, i - 1⟩]⟩] := by
    show (M.N ++ [mkN 9 1]).set i _ = _
    rw [List.set_append_right _ _ (by rw [R.nl]; exact Nat.le_refl _), R.nl, Nat.sub_self]
    rfl
  have hR2 : (ringM M i).R = (M.R.set 2 ⟨4, 0, i⟩).set 1 ⟨4, 0, i⟩ := by show (M.made 2 (mkN 9 1)).R.set 1 _ = _; rw [hR]
  have hl := R.rl
  refine ⟨?_, ?_, ?_, ⟨?_, ?_, ?_, ?_, ?_, ?_⟩⟩
  · rw [hR, List.getElem?_set_self (by omega)]
  · rw [hN, List.getElem?_append_right (by rw [R.nl]; exact Nat.le_refl _), R.nl, Nat.sub_self]; rfl
  · rw [hR, List.getElem?_set_ne (by omega)]; exact R.r1
  · rw [hR2, List.getElem?_set_ne (by omega), List.getElem?_set_ne (by omega)]; exact R.r0
  · rw [hR2, List.getElem?_set_self (by rw [List.length_set]; omega)]; rfl
  · rw [hR2, List.length_set, List.length_set]; exact hl
  · rw [hN2, List.length_append, R.nl]; rfl
  · rw [hN2, List.getElem?_append_left (by rw [R.nl]; omega)]; exact R.n0
  · intro k h0 h1
    rw [hN2]
    by_cases hk : k < i
    · rw [List.getElem?_append_left (by rw [R.nl]; exact hk)]; exact R.nk k h0 hk
    · obtain rfl : k = i := by omega
      rw [List.getElem?_append_right (by rw [R.nl]; exact Nat.le_refl _), R.nl, Nat.sub_self]; rfl
/-- The ring is closed; one root, or none, leads there. -/
def closeM (M : MO) (n : Nat) (keep : Bool) : MO := let M1 := ((M.putN 0 (mkN 9 1) 0 ⟨4, 0, n - 1⟩).set 1 (clK 0)).set 2 (clK 0); if keep then M1 else M1.set 0 (clK 0)
theorem Ring.keeps {n : Nat} (hn : 1 ≤ n) (R : Ring M n) (hm : HM m sr (closeM M n true) X) : (closeM M n true).words = 2 * n := by
  have hN : (closeM M n true).N = M.N.set 0 ⟨9, [], [⟨4, 0, n - 1⟩]⟩ := rfl
  have hR : (closeM M n true).R = (M.R.set 1 (clK 0)).set 2 (clK 0) := rfl
  have hnl : (closeM M n true).N.length = n := by rw [hN, List.length_set]; exact R.nl
  have h0 : (closeM M n true).N[0]? = some ⟨9, [], [⟨4, 0, n - 1⟩]⟩ := by rw [hN, List.getElem?_set_self (by rw [R.nl]; omega)]
  have hk : ∀ k, 0 < k → k < n → (closeM M n true).N[k]? = some ⟨9, [], [⟨4, 0, k - 1⟩]⟩ := fun k h1 h2 => by rw [hN, List.getElem?_set_ne (by omega)]; exact R.nk k h1 h2
  obtain ⟨_, _, a3, a4⟩ := hm.all
  have i0 : 0 ∈ (closeM M n true).all := a3 ⟨4, 0, 0⟩ (by
    refine List.mem_of_getElem? (i := 0) ?_
    rw [hR, List.getElem?_set_ne (by omega), List.getElem?_set_ne (by omega)]
    exact R.r0) rfl
  have il : n - 1 ∈ (closeM M n true).all := a4 0 i0 _ h0 (by show ¬ (9 : Int) < 8; decide) ⟨4, 0, n - 1⟩ (by simp) rfl
  have ia : ∀ j, j < n → n - 1 - j ∈ (closeM M n true).all := fun j => by
    induction j with
    | zero => exact fun _ => il
    | succ j ih =>
      intro hj
      have h1 := ih (by omega)
      have h2 := a4 _ h1 _ (hk _ (by omega) (by omega)) (by show ¬ (9 : Int) < 8; decide) ⟨4, 0, n - 1 - j - 1⟩ (by simp) rfl
      exact h2
  rw [hm.whole (fun i hi => by
    rw [hnl] at hi
    have := ia (n - 1 - i) (by omega)
    rw [show n - 1 - (n - 1 - i) = i by omega] at this
    exact this), total_two (fun d hd => ?_), hnl]
  obtain ⟨k, hk'⟩ := List.getElem?_of_mem hd
  have hl := (List.getElem?_eq_some_iff.1 hk').1
  rw [hnl] at hl
  rcases Nat.eq_zero_or_pos k with rfl | hp
  · rw [h0] at hk'; cases hk'; rfl
  · rw [hk k hp hl] at hk'; cases hk'; rfl
theorem Ring.gone {n : Nat} (R : Ring M n) : (closeM M n false).words = 0 := by
  refine words_none (fun c hc => ?_)
  have hR : (closeM M n false).R = ((M.R.set 1 (clK 0)).set 2 (clK 0)).set 0 (clK 0) := rfl
  rw [hR] at hc
  obtain ⟨k, hk⟩ := List.getElem?_of_mem hc
  have hl := (List.getElem?_eq_some_iff.1 hk).1
  rw [List.length_set, List.length_set, List.length_set, R.rl] at hl
  have hl3 := R.rl
  rcases (by omega : k = 0 ∨ k = 1 ∨ k = 2) with rfl | rfl | rfl
  · rw [List.getElem?_set_self (by simp [R.rl])] at hk; cases hk; decide
  · rw [List.getElem?_set_ne (by omega), List.getElem?_set_ne (by omega), List.getElem?_set_self (by omega)] at hk; cases hk; decide
  · rw [List.getElem?_set_ne (by omega), List.getElem?_set_self (by rw [List.length_set]; omega)] at hk; cases hk; decide
end Go.Proofs.YtlkcbdinlfeoiaaGreatDoor
namespace Go.Proofs.YtlkcbdinlfeoiaaGreatDoor
open Go.RowKit Go.Maps

variable {h : HP} {sr : Int} {m : MD} {w w' : World} {a : Nat → Addr} {w0 : World} {M : MO} {X : MXtra}
theorem enterLook1 (args : Array Value) (w : World) : (callFunc 79 args).run Tryz.prog w = .ok (.enter 79 args) w := by kernel_rfl
theorem infoU64w : ∃ i, Tryz.prog.info? 81 = some i ∧ i.zero = some (.int .u64 0) ∧ i.size = 1 ∧ i.bytes = 8 := info_parts (by kernel_rfl)
/-- Weak references have grown: the row's block, or a new one. -/
theorem HAt.weakly (H : HAt h sr m w) {w1 : World} {v' : Value} {x : Int} (g : w.grownBy w1 h.vK.ownBlock) (hv : ∀ k, v'.ownBlock = some k → h.vK.ownBlock = some k ∨ w.heap.size ≤ k) (o : w1.ownsRow 0 81 1 v' (m.K.length + 1) (wordsV m.K ++ [.int .u64 x])) :
    HAt { h with vK := v' } sr { m with K := m.K ++ [x] } (w1.setCell ⟨h.p, 8, none⟩ v') ∧ Nxt h { h with vK := v' } w (w1.setCell ⟨h.p, 8, none⟩ v') := by
  have hk0 : ∀ k, h.vK.ownBlock = some k → k ≠ h.q ∧ k ≠ h.p ∧ k ≠ h.bW ∧ k ≠ h.bC ∧ ¬ isOf h.vR k ∧ ¬ h.vI.ownBlock = some k := fun k hk => by
    have t := own_ty H.K hk
    exact ⟨t.ne H.tq (by decide), t.ne H.tp (by decide), fun e => H.kb (by rw [hk, e]), t.ne H.tC (by decide), fun e => H.rk k e hk, fun e => (own_ty H.I e).ne t (by decide) rfl⟩
  have ha : Aside (fun k => h.vK.ownBlock = some k) w w1 := ⟨g.os, g.tape, g.output, g.size, fun k hk hx => g.block k hk (fun e => hx e.symm)⟩
  have hp1 := (ha.block _ H.tp.lt (fun e => (hk0 _ e).2.1 rfl)).trans H.mb
  have hq1 := (ha.block _ H.tq.lt (fun e => (hk0 _ e).1 rfl)).trans H.hq
  have ap : Aside (fun k => k = h.p) w1 (w1.setCell ⟨h.p, 8, none⟩ v') := (Aside.refl (fun k => k = h.p) w1).setCell (g := h.p) rfl _
  have lp := H.tp.lt
  have nqp := H.tq.ne H.tp (by decide)
  have nWp := H.tW.ne H.tp (by decide)
  have nCp := H.tC.ne H.tp (by decide)
  have nRp : ∀ k, isOf h.vR k → k ≠ h.p := fun k hk => (rowB_ty H.R hk).ne H.tp (by decide)
  have nIp : ∀ k, h.vI.ownBlock = some k → k ≠ h.p := fun k hk => (own_ty H.I hk).ne H.tp (by decide)
  have hKp : ∀ k, v'.ownBlock = some k → k ≠ h.p := fun k hk e => by
    rcases hv k hk with h1 | h1
    · exact (hk0 k h1).2.1 e
    · rw [e] at h1; omega
  refine ⟨⟨?_, ?_, ?_, ?_, H.cap, H.capC, ?_, ?_, ?_, ?_, H.rb, ?_⟩, rfl, rfl, fun k hk => ?_, ?_⟩
  · exact (ap.block _ (lt_of_heap hq1) nqp).trans hq1
  · exact heap_set_same hp1
  · exact (H.hW.aside ha (fun e => (hk0 _ e).2.2.1 rfl)).aside ap nWp
  · exact (H.hC.aside ha (fun e => (hk0 _ e).2.2.2.1 rfl)).aside ap nCp
  · exact (H.R.aside ha (fun k hk e => (hk0 k e).2.2.2.2.1 hk)).aside ap (fun k hk => nRp k hk)
  · show World.ownsRow _ 0 _ 1 v' (m.K ++ [x]).length (wordsV (m.K ++ [x]))
    have e : wordsV (m.K ++ [x]) = wordsV m.K ++ [.int .u64 x] := by simp [wordsV]
    rw [e, List.length_append]
    exact ownsRow_far' o (fun k hk => ap.block k (own_lt2 o k hk).2 (hKp k hk))
  · have o1 := ownsRow_far' (w' := w1) H.I (fun k hk => ha.block k (own_lt2 H.I k hk).2 (fun e => (hk0 k e).2.2.2.2.2 hk))
    exact ownsRow_far' o1 (fun k hk => ap.block k (own_lt2 o1 k hk).2 (nIp k hk))
  · intro k hk e
    rcases hv k e with h1 | h1
    · exact H.rk k hk h1
    · have := (rowB_ty H.R hk).lt; omega
  · intro e
    rcases hv _ e with h1 | h1
    · exact H.kb h1
    · have := H.tW.lt
      have h1 : w.heap.size ≤ h.bW := h1
      omega
  · rcases hk with hk | hk | hk | hk | hk | hk | hk
    · exact .inl (.inl hk)
    · exact .inl (.inr (.inl hk))
    · exact .inl (.inr (.inr (.inl hk)))
    · exact .inl (.inr (.inr (.inr (.inl hk))))
    · exact .inl (.inr (.inr (.inr (.inr (.inl hk)))))
    · rcases hv k hk with h1 | h1
      · exact .inl (.inr (.inr (.inr (.inr (.inr (.inl h1))))))
      · exact .inr h1
    · exact .inl (.inr (.inr (.inr (.inr (.inr (.inr hk))))))
  · exact (ha.mono (fun k hk => .inr (.inr (.inr (.inr (.inr (.inl hk))))))).join ap (fun k _ hk => .inr (.inl hk))
end Go.Proofs.YtlkcbdinlfeoiaaGreatDoor
namespace Go.Proofs.YtlkcbdinlfeoiaaGreatDoor
open Go.RowKit Go.Maps

variable {h : HP} {sr : Int} {m : MD} {w w' : World} {a : Nat → Addr} {w0 : World} {M : MO} {X : MXtra}
def MXtra.weak (X : MXtra) (i : Nat) : MXtra := { X with K := X.K ++ [i] }
set_option maxHeartbeats 4000000 in
set_option maxRecDepth 100000 in
theorem hweak_ok (s : HS a w0 h sr m M X w) {r : Nat} {c : CL} (hj : M.R[r]? = some c) (h4 : c.kind = 4) (hk : X.K.length < 5000) :
    Calls Tryz.prog 29 #[.pointer (some ⟨h.q, 0, none⟩), .int .i64 (r : Int)] w fun ev w' => ev = .returned (.tuple #[.int .i64 (X.K.length : Int), .nilIface]) ∧ Stp a w0 h m M (X.weak c.ref) w w' := by
  obtain ⟨f, d, o⟩ : ∃ f d, ObjAt m M r c f d := by
    rcases s.hm.rootIs hj with ⟨q, _⟩ | q
    · exact absurd h4 q
    · exact q
  obtain ⟨x, e1, _, hm⟩ := s.hm.weakly hj h4
  have ex : x = ((f : Int) + 1) * 4 := by have := o.root; rw [e1] at this; exact Option.some.inj this
  have kp := hpointer_ok s o
  rw [← ex] at kp
  have hkl := s.hm.weaks
  obtain ⟨_, ⟨aK, cK, eK⟩, _⟩ := s.at'.rows
  obtain ⟨q, hq⟩ : ∃ q, q = h.q := ⟨_, rfl⟩
  obtain ⟨p, hp⟩ : ∃ p, p = h.p := ⟨_, rfl⟩
  obtain ⟨nK, hn⟩ : ∃ n, n = m.K.length := ⟨_, rfl⟩
  obtain ⟨xs, hxs⟩ : ∃ xs, xs = wordsV m.K := ⟨_, rfl⟩
  rw [← hn] at eK
  rw [← hq] at kp ⊢
  rw [← hkl, ← hn]
  have HC : Hid (∀ W, Below w.heap.size w W → W.cell? ⟨q, 0, none⟩ = some (.pointer (some ⟨p, 0, none⟩)) ∧ W.cell? ⟨p, 8, none⟩ = some (.slice aK nK cK) ∧ W.frozen? ⟨p, 8, none⟩ = false ∧ W.ownsRow 0 81 1 (.slice aK nK cK) nK xs ∧ q ≠ p ∧ ∃ cs : Array Value, W.heap[p]? = some (.cells cs 84) ∧ cs[8]? = some (.slice aK nK cK) ∧ (Value.slice aK nK cK).ownBlock ≠ some p ∧ (Value.slice aK nK cK).ownBlock ≠ some q) := fun W hW => by
    have H := s.at'.below hW
    have hmb := H.mb
    unfold MB at hmb
    have c8 := H.cm.c8
    have oK := H.K
    have n1 : h.vK.ownBlock ≠ some p := fun e => (own_ty H.K e).ne H.tp (by decide) hp
    have n2 : h.vK.ownBlock ≠ some q := fun e => (own_ty H.K e).ne H.tq (by decide) hq
    rw [eK] at c8 oK n1 n2 hmb
    rw [← hn, ← hxs] at oK
    exact ⟨by rw [hq, hp]; exact H.c0, by rw [hp]; exact c8, by rw [hp]; simp [World.frozen?, hmb], oK, by rw [hq, hp]; exact H.tq.ne H.tp (by decide), _, by rw [hp]; exact hmb, rfl, n1, n2⟩
  have HW : Hid (∀ W w8 g cap, Below w.heap.size w W → W.grownBy w8 (Value.slice aK nK cK).ownBlock → ((Value.slice aK nK cK).ownBlock = some g ∨ W.heap.size ≤ g) → w8.ownsRow 0 81 1 (.slice (some ⟨g, 0, none⟩) (nK + 1) cap) (nK + 1) (xs ++ [.int .u64 x]) → Stp a w0 h m M (X.weak c.ref) w (w8.setCell ⟨p, 8, none⟩ (.slice (some ⟨g, 0, none⟩) (nK + 1) cap))) := fun W w8 g cap hW hg hv ho => by
    have H := s.at'.below hW
    rw [hxs, hn] at ho
    rw [← eK] at hg hv
    obtain ⟨H', N'⟩ := H.weakly hg (v' := .slice (some ⟨g, 0, none⟩) (nK + 1) cap) (fun k e => by cases e; exact hv) (by rw [hn]; exact ho)
    rw [hp]
    refine ⟨_, sr, { m with K := m.K ++ [x] }, (Nxt.of_below h hW).trans N', ⟨rfl, rfl, rfl⟩, s.next ((Nxt.of_below h hW).trans N') H' hm ?_ s.rl⟩
    show (X.K ++ [c.ref]).length ≤ 5000
    rw [List.length_append]
    show X.K.length + 1 ≤ 5000
    omega
  have hnb : nK < 5000 := by omega
  clear s o hm hj h4 hkl hk hq hp hn hxs e1 ex eK
  have nI : ¬ (5000 : Int) ≤ (nK : Int) := by omega
  go_enter Tryz.func29, Tryz.ntmps29
  go_wp2_with fail
  refine kp.mono ?_
  clear kp
  rintro ev w2 ⟨rfl, b2⟩
  obtain ⟨d0, d8, f8, oK, nqp, _⟩ := HC.out w2 b2
  have HB2 := toHid b2
  have HOK := toHid oK
  have d0d : w2.drew.cell? ⟨q, 0, none⟩ = some (.pointer (some ⟨p, 0, none⟩)) := d0
  have lq : q < w2.heap.size := lt_of_cell d0
  have keepA : ∀ {ob : Obj}, ((w2.alloc ob).drew).cell? ⟨q, 0, none⟩ = some (.pointer (some ⟨p, 0, none⟩)) := fun {ob} => ((((Below.refl w2.heap.size w2).alloc (Nat.le_refl _) ob).drew).cell (p := ⟨q, 0, none⟩) lq).trans d0
  have d8a : ((w2.alloc (.cells #[.int .u64 x] 81)).drew).cell? ⟨p, 8, none⟩ = some (.slice aK nK cK) := ((((Below.refl w2.heap.size w2).alloc (Nat.le_refl _) _).drew).cell (p := ⟨p, 8, none⟩) (lt_of_cell d8)).trans d8
  have HFin : Hid (∀ {ob : Obj} {g cap : Nat} {wA : World}, Below w2.heap.size w2 ((w2.alloc ob).drew) → wA.ownsRow 0 81 1 (.slice (some ⟨g, 0, none⟩) (nK + 1) cap) (nK + 1) (xs ++ [.int .u64 x]) → ((w2.alloc ob).drew).grownBy wA (Value.slice aK nK cK).ownBlock → ((Value.slice aK nK cK).ownBlock = some g ∨ g = ((w2.alloc ob).drew).heap.size) →
      wA.cell? ⟨p, 8, none⟩ = some (.slice aK nK cK) ∧ wA.frozen? ⟨p, 8, none⟩ = false ∧ wA.cell? ⟨q, 0, none⟩ = some (.pointer (some ⟨p, 0, none⟩)) ∧ Stp a w0 h m M (X.weak c.ref) w (wA.setCell ⟨p, 8, none⟩ (.slice (some ⟨g, 0, none⟩) (nK + 1) cap)) ∧ ((wA.setCell ⟨p, 8, none⟩ (.slice (some ⟨g, 0, none⟩) (nK + 1) cap)).cell? ⟨q, 0, none⟩ = some (.pointer (some ⟨p, 0, none⟩)) ∧ (wA.setCell ⟨p, 8, none⟩ (.slice (some ⟨g, 0, none⟩) (nK + 1) cap)).cell? ⟨p, 8, none⟩ = some (.slice (some ⟨g, 0, none⟩) (nK + 1) cap))) := fun {ob g cap wA} hb ho hg hv => by
    have B3 := HB2.out.trans (hb.mono HB2.out.size)
    obtain ⟨k0, _, _, _, _, cs, hbp, hcs, n1, n2⟩ := HC.out _ B3
    have hbA : wA.heap[p]? = some (.cells cs 84) := (hg.block p (lt_of_heap hbp) (fun e => n1 e.symm)).trans hbp
    have cq : wA.cell? ⟨q, 0, none⟩ = some (.pointer (some ⟨p, 0, none⟩)) := (World.cell?_of_block (a := ⟨q, 0, none⟩) (hg.block q (lt_of_cell k0) (fun e => n2 e.symm))).trans k0
    refine ⟨by rw [cell_of_row _ _ _ _ _ _ hbA]; exact hcs, by simp [World.frozen?, hbA], cq, HW.out _ wA g cap B3 hg (hv.imp_right (fun e => Nat.le_of_eq e.symm)) ho, (World.cell?_of_block (a := ⟨q, 0, none⟩) (heap_set _ _ _ _ _ nqp)).trans cq, ?_⟩
    rw [cell_of_row _ _ _ _ _ _ (heap_set_same hbA)]
    have := (Array.getElem?_eq_some_iff.1 hcs).1
    simp [this]
  clear oK f8 b2
  go_upto_region 6 with fail
  go_cut [] from 32 to 50 (fun wx => ∃ g cap, Hid (Stp a w0 h m M (X.weak c.ref) w wx) ∧ wx.cell? ⟨q, 0, none⟩ = some (.pointer (some ⟨p, 0, none⟩)) ∧ wx.cell? ⟨p, 8, none⟩ = some (.slice (some ⟨g, 0, none⟩) (nK + 1) cap))
  case first =>
    obtain ⟨i0, hi0, hz0, hz1, hz2⟩ := infoU64w
    refine wp_region_held_drew (S := (fun W => W.cell? ⟨q, 0, none⟩ = some (.pointer (some ⟨p, 0, none⟩)))) (by kernel_rfl) d0d (fun hHeld => ?_)
    refine wpAnyH_take (i := 0) (oi := { dst := some 32, op := _, type := _, pos := _, after := _, guard := _ }) (v := ?v0) rfl (by kernel_rfl) (by kernel_rfl) (by kernel_rfl) (fun _ _ _ h => h) (Or.inl ⟨by rfl, ?y0⟩) hHeld ?r0
    case y0 => (intro wz hSw; (try dsimp only at hSw); go_simp; try with_reducible rfl)
    case r0 =>
    try simp only [Act.put, List.setIfInBounds_toArray, List.set_cons_zero, List.set_cons_succ]
    refine wpAnyH_take (i := 1) (oi := { dst := some 33, op := _, type := _, pos := _, after := _, guard := _ }) (v := ?v1) rfl (by kernel_rfl) (by kernel_rfl) (by kernel_rfl) (fun _ _ _ h => h) (Or.inl ⟨by rfl, ?y1⟩) hHeld ?r1
    case y1 => (intro wz hSw; (try dsimp only at hSw); go_simp; try with_reducible rfl)
    case r1 =>
    try simp only [Act.put, List.setIfInBounds_toArray, List.set_cons_zero, List.set_cons_succ]
    refine wpAnyH_take (i := 2) (oi := { dst := some 34, op := _, type := _, pos := _, after := _, guard := _ }) (v := ?v2) rfl (by kernel_rfl) (by kernel_rfl) (by kernel_rfl) (fun _ _ _ h => h) (Or.inl ⟨by rfl, ?y2⟩) hHeld ?r2
    case y2 => (intro wz hSw; (try dsimp only at hSw); go_simp; try with_reducible rfl)
    case r2 =>
    try simp only [Act.put, List.setIfInBounds_toArray, List.set_cons_zero, List.set_cons_succ]
    refine wpAnyH_take (i := 3) (oi := { dst := some 35, op := _, type := _, pos := _, after := _, guard := _ }) (v := ?v3) rfl (by kernel_rfl) (by kernel_rfl) (by kernel_rfl) (fun _ _ _ h => h) (Or.inl ⟨by rfl, ?y3⟩) hHeld ?r3
    case y3 => (intro wz hSw; (try dsimp only at hSw); go_simp; try with_reducible rfl)
    case r3 =>
    try simp only [Act.put, List.setIfInBounds_toArray, List.set_cons_zero, List.set_cons_succ]
    refine wpAnyH_take (i := 4) (oi := { dst := some 36, op := _, type := _, pos := _, after := _, guard := _ }) (v := ?v4) rfl (by kernel_rfl) (by kernel_rfl) (by kernel_rfl) (fun _ _ _ h => h) (Or.inl ⟨by rfl, ?y4⟩) hHeld ?r4
    case y4 => (intro wz hSw; (try dsimp only at hSw); go_simp; try with_reducible rfl)
    case r4 =>
    try simp only [Act.put, List.setIfInBounds_toArray, List.set_cons_zero, List.set_cons_succ]
    refine wpAnyH_take (i := 5) (oi := { dst := some 37, op := _, type := _, pos := _, after := _, guard := _ }) (v := ?v5) rfl (by kernel_rfl) (by kernel_rfl) (by kernel_rfl) (fun _ _ _ h => h) (Or.inl ⟨by rfl, ?y5⟩) hHeld ?r5
    case y5 => (intro wz hSw; (try dsimp only at hSw); go_simp; try with_reducible rfl)
    case r5 =>
    try simp only [Act.put, List.setIfInBounds_toArray, List.set_cons_zero, List.set_cons_succ]
    refine wpAnyH_take (i := 6) (oi := { dst := some 38, op := _, type := _, pos := _, after := _, guard := _ }) (v := ?v6) rfl (by kernel_rfl) (by kernel_rfl) (by kernel_rfl) (fun _ _ _ h => h) (Or.inl ⟨by rfl, ?y6⟩) hHeld ?r6
    case y6 => (intro wz hSw; (try dsimp only at hSw); go_simp; try with_reducible rfl)
    case r6 =>
    try simp only [Act.put, List.setIfInBounds_toArray, List.set_cons_zero, List.set_cons_succ]
    refine wpAnyH_take (i := 7) (oi := { dst := some 39, op := _, type := _, pos := _, after := _, guard := _ }) (v := ?v7) rfl (by kernel_rfl) (by kernel_rfl) (by kernel_rfl) (fun _ _ _ h => h) (Or.inl ⟨by rfl, ?y7⟩) hHeld ?r7
    case y7 => (intro wz hSw; (try dsimp only at hSw); go_simp; try with_reducible rfl)
    case r7 =>
    try simp only [Act.put, List.setIfInBounds_toArray, List.set_cons_zero, List.set_cons_succ]
    refine wpAnyH_take (i := 8) (oi := { dst := some 40, op := _, type := _, pos := _, after := _, guard := _ }) (v := ?v8) rfl (by kernel_rfl) (by kernel_rfl) (by kernel_rfl) (fun _ _ _ h => h) (Or.inl ⟨by rfl, ?y8⟩) hHeld ?r8
    case y8 => (intro wz hSw; (try dsimp only at hSw); go_simp; try with_reducible rfl)
    case r8 =>
    try simp only [Act.put, List.setIfInBounds_toArray, List.set_cons_zero, List.set_cons_succ]
    refine wpAnyH_take (i := 9) (oi := { dst := some 41, op := _, type := _, pos := _, after := _, guard := _ }) (v := ?v9) rfl (by kernel_rfl) (by kernel_rfl) (by kernel_rfl) (fun _ _ _ h => h) (Or.inl ⟨by rfl, ?y9⟩) hHeld ?r9
    case y9 => (intro wz hSw; (try dsimp only at hSw); go_simp; try with_reducible rfl)
    case r9 =>
    try simp only [Act.put, List.setIfInBounds_toArray, List.set_cons_zero, List.set_cons_succ]
    refine wpAnyH_take (i := 10) (oi := { dst := some 42, op := _, type := _, pos := _, after := _, guard := _ }) (v := ?v10) rfl (by kernel_rfl) (by kernel_rfl) (by kernel_rfl) (fun _ _ _ h => h) (Or.inl ⟨by rfl, ?y10⟩) hHeld ?r10
    case y10 => (intro wz hSw; (try dsimp only at hSw); go_simp; try with_reducible rfl)
    case r10 =>
    try simp only [Act.put, List.setIfInBounds_toArray, List.set_cons_zero, List.set_cons_succ]
    refine wpAnyH_take (i := 11) (oi := { dst := some 43, op := _, type := _, pos := _, after := _, guard := _ }) (v := ?v11) rfl (by kernel_rfl) (by kernel_rfl) (by kernel_rfl) (fun _ _ _ h => h) (Or.inl ⟨by rfl, ?y11⟩) hHeld ?r11
    case y11 => (intro wz hSw; (try dsimp only at hSw); go_simp; try with_reducible rfl)
    case r11 =>
    try simp only [Act.put, List.setIfInBounds_toArray, List.set_cons_zero, List.set_cons_succ]
    refine wpAnyH_take (i := 13) (oi := { dst := some 45, op := _, type := _, pos := _, after := _, guard := _ }) (v := ?v12) rfl (by kernel_rfl) (by kernel_rfl) (by kernel_rfl) (fun _ _ _ h => h) (Or.inl ⟨by rfl, ?y12⟩) hHeld ?r12
    case y12 => (intro wz hSw; (try dsimp only at hSw); go_simp; try with_reducible rfl)
    case r12 =>
    try simp only [Act.put, List.setIfInBounds_toArray, List.set_cons_zero, List.set_cons_succ]
    refine wpAnyH_ready (rs := [12, 14]) (by kernel_rfl) (by simp) ?_
    refine AllReadyH.cons (o := { dst := some 44, op := _, type := _, pos := _, after := _, guard := _ }) rfl (fun K hK => ?_) (AllReadyH.cons (o := { dst := some 46, op := _, type := _, pos := _, after := _, guard := _ }) rfl (fun K hK => ?_) AllReadyH.nil)
    · skip
      go_simp
      refine hK.out _ _ (hHeld) (fun hHeld => ?_)
      clear hK K
      try simp only [Act.put, List.setIfInBounds_toArray, List.set_cons_zero, List.set_cons_succ]
      refine wpAnyH_ready (rs := [14]) (by kernel_rfl) (by simp) ?_
      refine AllReadyH.cons (o := { dst := some 46, op := _, type := _, pos := _, after := _, guard := _ }) rfl (fun K hK => ?_) AllReadyH.nil
      go_simp
      refine hK.out _ _ (keepA) (fun hHeld => ?_)
      clear hK K
      try simp only [Act.put, List.setIfInBounds_toArray, List.set_cons_zero, List.set_cons_succ]
      refine wpAnyH_ready (rs := [15]) (by kernel_rfl) (by simp) ?_
      refine AllReadyH.cons (o := { dst := some 47, op := _, type := _, pos := _, after := _, guard := _ }) rfl (fun K hK => ?_) AllReadyH.nil
      refine step_append_lies _ (by rfl) _ _ _ (by rfl) 0 81 i0 (.int .u64 0) 1 8 Tryz.underlying79 hi0 hz0 hz1 hz2 rfl (by decide) (.slice aK nK cK) nK xs rfl (ownsRow_far' HOK.out (fun g hg => heap_alloc_old _ _ _ (own_lt2 HOK.out g hg).2)) ⟨w2.heap.size, 0, none⟩ 1 1 [.int .u64 x] rfl rfl (World.news_of_block (cs := #[.int .u64 x]) (t := 81) (heap_alloc_new _ _)) (fun u hu => by simp at hu; subst hu; rfl) (by decide) (by unfold maxLen; omega) (by omega) (by simp) _ rfl ?_
      intro g' cap' wA hownA hgrowA hatA hltA
      obtain ⟨cA, fA, c0A, sA, tA⟩ := HFin.out (((Below.refl _ _).alloc (Nat.le_refl _) _).drew) hownA hgrowA hatA
      have HSA := toHid sA
      have HTA := toHid tA
      clear hownA hgrowA hatA hltA sA tA
      refine hK.out _ _ (c0A) (fun hHeld => ?_)
      clear hK K
      try simp only [Act.put, List.setIfInBounds_toArray, List.set_cons_zero, List.set_cons_succ]
      refine wpAnyH_take (i := 16) (oi := { dst := some 48, op := _, type := _, pos := _, after := _, guard := _ }) (v := ?v13) rfl (by kernel_rfl) (by kernel_rfl) (by kernel_rfl) (fun _ _ _ h => h) (Or.inl ⟨by rfl, ?y13⟩) hHeld ?r13
      case y13 => (intro wz hSw; (try dsimp only at hSw); go_simp; try with_reducible rfl)
      case r13 =>
      try simp only [Act.put, List.setIfInBounds_toArray, List.set_cons_zero, List.set_cons_succ]
      refine wpAnyH_take (i := 17) (oi := { dst := some 49, op := _, type := _, pos := _, after := _, guard := _ }) (v := ?v14) rfl (by kernel_rfl) (by kernel_rfl) (by kernel_rfl) (fun _ _ _ h => h) (Or.inl ⟨by rfl, ?y14⟩) hHeld ?r14
      case y14 => (intro wz hSw; (try dsimp only at hSw); go_simp; try with_reducible rfl)
      case r14 =>
      try simp only [Act.put, List.setIfInBounds_toArray, List.set_cons_zero, List.set_cons_succ]
      refine wpAnyH_ready (rs := [18]) (by kernel_rfl) (by simp) ?_
      refine AllReadyH.cons (o := { dst := none, op := _, type := _, pos := _, after := _, guard := _ }) rfl (fun K hK => ?_) AllReadyH.nil
      go_simp
      refine hK.out _ _ (HTA.out.1) (fun hHeld => ?_)
      clear hK K
      try simp only [Act.put, List.setIfInBounds_toArray, List.set_cons_zero, List.set_cons_succ]
      refine wpAnyH_done (by kernel_rfl) ?_ _
      go_wp2_with fail
      go_meet
      exact ⟨g', cap', HSA.out, HTA.out.1, HTA.out.2⟩
    · skip
      go_simp
      refine hK.out _ _ (keepA) (fun hHeld => ?_)
      clear hK K
      try simp only [Act.put, List.setIfInBounds_toArray, List.set_cons_zero, List.set_cons_succ]
      refine wpAnyH_ready (rs := [12]) (by kernel_rfl) (by simp) ?_
      refine AllReadyH.cons (o := { dst := some 44, op := _, type := _, pos := _, after := _, guard := _ }) rfl (fun K hK => ?_) AllReadyH.nil
      go_simp
      refine hK.out _ _ (hHeld) (fun hHeld => ?_)
      clear hK K
      try simp only [Act.put, List.setIfInBounds_toArray, List.set_cons_zero, List.set_cons_succ]
      refine wpAnyH_ready (rs := [15]) (by kernel_rfl) (by simp) ?_
      refine AllReadyH.cons (o := { dst := some 47, op := _, type := _, pos := _, after := _, guard := _ }) rfl (fun K hK => ?_) AllReadyH.nil
      refine step_append_lies _ (by rfl) _ _ _ (by rfl) 0 81 i0 (.int .u64 0) 1 8 Tryz.underlying79 hi0 hz0 hz1 hz2 rfl (by decide) (.slice aK nK cK) nK xs rfl (ownsRow_far' HOK.out (fun g hg => heap_alloc_old _ _ _ (own_lt2 HOK.out g hg).2)) ⟨w2.heap.size, 0, none⟩ 1 1 [.int .u64 x] rfl rfl (World.news_of_block (cs := #[.int .u64 x]) (t := 81) (heap_alloc_new _ _)) (fun u hu => by simp at hu; subst hu; rfl) (by decide) (by unfold maxLen; omega) (by omega) (by simp) _ rfl ?_
      intro g' cap' wA hownA hgrowA hatA hltA
      obtain ⟨cA, fA, c0A, sA, tA⟩ := HFin.out (((Below.refl _ _).alloc (Nat.le_refl _) _).drew) hownA hgrowA hatA
      have HSA := toHid sA
      have HTA := toHid tA
      clear hownA hgrowA hatA hltA sA tA
      refine hK.out _ _ (c0A) (fun hHeld => ?_)
      clear hK K
      try simp only [Act.put, List.setIfInBounds_toArray, List.set_cons_zero, List.set_cons_succ]
      refine wpAnyH_take (i := 16) (oi := { dst := some 48, op := _, type := _, pos := _, after := _, guard := _ }) (v := ?v15) rfl (by kernel_rfl) (by kernel_rfl) (by kernel_rfl) (fun _ _ _ h => h) (Or.inl ⟨by rfl, ?y15⟩) hHeld ?r15
      case y15 => (intro wz hSw; (try dsimp only at hSw); go_simp; try with_reducible rfl)
      case r15 =>
      try simp only [Act.put, List.setIfInBounds_toArray, List.set_cons_zero, List.set_cons_succ]
      refine wpAnyH_take (i := 17) (oi := { dst := some 49, op := _, type := _, pos := _, after := _, guard := _ }) (v := ?v16) rfl (by kernel_rfl) (by kernel_rfl) (by kernel_rfl) (fun _ _ _ h => h) (Or.inl ⟨by rfl, ?y16⟩) hHeld ?r16
      case y16 => (intro wz hSw; (try dsimp only at hSw); go_simp; try with_reducible rfl)
      case r16 =>
      try simp only [Act.put, List.setIfInBounds_toArray, List.set_cons_zero, List.set_cons_succ]
      refine wpAnyH_ready (rs := [18]) (by kernel_rfl) (by simp) ?_
      refine AllReadyH.cons (o := { dst := none, op := _, type := _, pos := _, after := _, guard := _ }) rfl (fun K hK => ?_) AllReadyH.nil
      go_simp
      refine hK.out _ _ (HTA.out.1) (fun hHeld => ?_)
      clear hK K
      try simp only [Act.put, List.setIfInBounds_toArray, List.set_cons_zero, List.set_cons_succ]
      refine wpAnyH_done (by kernel_rfl) ?_ _
      go_wp2_with fail
      go_meet
      exact ⟨g', cap', HSA.out, HTA.out.1, HTA.out.2⟩
  case rest =>
    obtain ⟨g, cap, hS, c0', c8'⟩ := hcut
    have eW : IntKind.i64.wrap (((nK + 1 : Nat) : Int) - 1) = (nK : Int) := by rw [wrapI _ (by omega) (by omega)]; omega
    clear d0 d8 d8a d0d keepA
    go_wp2_with fail
    go_ret2
    exact ⟨rfl, hS.out⟩
end Go.Proofs.YtlkcbdinlfeoiaaGreatDoor
namespace Go.Proofs.YtlkcbdinlfeoiaaGreatDoor
open Go.RowKit Go.Maps

variable {h : HP} {sr : Int} {m : MD} {w w' : World} {a : Nat → Addr} {w0 : World} {M : MO} {X : MXtra}
set_option maxHeartbeats 1000000 in
theorem hlook1 (b : Nat) (x : Int) (w : World) (hc : w.cell? ⟨b, 0, none⟩ = some (.int .u64 x)) :
    Calls Tryz.prog 79 #[.pointer (some ⟨b, 0, none⟩)] w fun ev w' => ev = .returned (.tuple #[.int .u64 x, .nilIface]) ∧ w' = w := by
  go_enter Tryz.func79, Tryz.ntmps79
  go_wp2_with fail
  go_ret2
  exact ⟨rfl, rfl⟩
set_option maxHeartbeats 4000000 in
set_option maxRecDepth 100000 in
theorem hlook_walk (s : HS a w0 h sr m M X w) {j t : Nat} (hj : j < m.K.length) (ht : t < m.R.length) (b : Bool) (hb : (b = false ∧ m.K.getD j 0 = 2) ∨ (b = true ∧ m.K.getD j 0 ≠ 2)) (c : CL) (hm : HM { m with R := m.R.set t (m.K.getD j 0) } sr (M.set t c) X) :
    Calls Tryz.prog 33 #[.pointer (some ⟨h.q, 0, none⟩), .int .i64 (j : Int), .int .i64 (t : Int)] w fun ev w' => ev = .returned (.tuple #[.bool b, .nilIface]) ∧ Stp a w0 h m (M.set t c) X w w' := by
  have hkl : m.K.length ≤ 5000 := by have := s.kl; have := s.hm.weaks; omega
  obtain ⟨x, hx⟩ : ∃ x, x = m.K.getD j 0 := ⟨_, rfl⟩
  rw [← hx] at hb hm
  obtain ⟨aK, cK, eK, hcK, _, fK⟩ := (RowB.of_own s.at'.K).1
  obtain ⟨g, rfl, hbK⟩ := fK (by omega)
  have cx : w.cell? ⟨g, j, none⟩ = some (.int .u64 x) := by
    refine hbK.cell ?_
    unfold wordsV
    rw [hx, List.getElem?_map, List.getD_eq_getElem?_getD, List.getElem?_eq_getElem hj]
    rfl
  have c0 := s.at'.c0
  have c8 := s.at'.cm.c8
  rw [eK] at c8
  have kw := fun w => hwithin_any (j : Int) 0 ((m.K.length : Int) - 1) w
  rw [show (decide (0 ≤ (j : Int)) && decide ((j : Int) ≤ (m.K.length : Int) - 1)) = true by simp; omega] at kw
  have ew : IntKind.i64.wrap ((m.K.length : Int) - 1) = (m.K.length : Int) - 1 := wrapI _ (by omega) (by omega)
  obtain ⟨w1, hw1⟩ : ∃ w1, w1 = w.alloc (.cells #[.int .u64 x] 81) := ⟨_, rfl⟩
  have b1 : Below w.heap.size w w1 := by rw [hw1]; exact (Below.refl _ _).alloc (Nat.le_refl _) _
  have n1 : w1.heap[w.heap.size]? = some (.cells #[.int .u64 x] 81) := by rw [hw1]; exact heap_alloc_new _ _
  have cb : w1.cell? ⟨w.heap.size, 0, none⟩ = some (.int .u64 x) := by rw [cell_of_row _ _ _ _ _ _ n1]; rfl
  have s1 := s.below b1
  have kb := (hbecome_ok s1 79 #[.pointer (some ⟨w.heap.size, 0, none⟩)] enterLook1 ht (fun y h' sr' n' w' => y = x ∧ h' = h ∧ sr' = sr ∧ n' = m ∧ w' = w1) (fun _ _ => False) ((hlook1 _ x w1 cb).mono fun ev w' q => .inl ⟨x, h, sr, m, q.1, by rw [q.2]; exact s1.at', rfl, ht, rfl, rfl, rfl, rfl, q.2⟩)).mono (R' := fun ev w' => ev = .returned .nilIface ∧ w'.cell? ⟨w.heap.size, 0, none⟩ = some (.int .u64 x) ∧ Stp a w0 h m (M.set t c) X w w') (by
    rintro ev w' (⟨y, h', sr', n', w2, rfl, ⟨rfl, rfl, rfl, rfl, rfl⟩, H, N'⟩ | ⟨k, rfl, hf⟩)
    · exact ⟨rfl, N'.cell cb (s.at'.fresh (Nat.le_refl _)), set_stp s (Nxt.of_below _ b1) N' (Dim.refl _) H hm⟩
    · exact hf.elim)
  obtain ⟨q, hq⟩ : ∃ q, q = h.q := ⟨_, rfl⟩
  obtain ⟨p, hp⟩ : ∃ p, p = h.p := ⟨_, rfl⟩
  obtain ⟨bx, hbx⟩ : ∃ bx, bx = w.heap.size := ⟨_, rfl⟩
  rw [← hq] at c0 kb ⊢
  rw [← hp] at c0 c8
  rw [← hbx] at kb
  have HW1 := toHid hw1
  have HBX := toHid hbx
  obtain ⟨nK, hnK⟩ : ∃ nK, nK = m.K.length := ⟨_, rfl⟩
  rw [← hnK] at c8 kw ew hj
  have hI : (j : Int) < (nK : Int) := by omega
  have hI0 : (0 : Int) ≤ (j : Int) := by omega
  clear s s1 hm hx fK hbK hw1 b1 n1 cb hq hp hbx eK hnK hcK hkl hj ht
  go_enter Tryz.func33, Tryz.ntmps33
  go_wp2_with fail
  refine (kw _).mono ?_
  rintro ev w4 ⟨rfl, e4⟩
  rw [e4]
  clear e4 w4 kw
  go_upto_region 4 with fail
  rw [← HW1.out, ← HBX.out]
  clear c0 c8 cx
  go_wp2_with fail
  refine kb.mono ?_
  clear kb
  rintro ev w5 ⟨rfl, c5, hS⟩
  have HE := toHid hS
  clear hS
  rcases hb with ⟨rfl, rfl⟩ | ⟨rfl, hx2⟩
  · go_wp2_with fail
    go_ret2
    exact ⟨rfl, HE.out⟩
  · have hx3 : (x != 2) = true := by simp [hx2]
    have hx4 : (x == 2) = false := by simp [hx2]
    go_wp2_with fail
    go_ret2
    exact ⟨by simp, HE.out⟩
theorem hlook_any (s : HS a w0 h sr m M X w) {j t i : Nat} (hj : X.K[j]? = some i) (ht : t < m.R.length) :
    Calls Tryz.prog 33 #[.pointer (some ⟨h.q, 0, none⟩), .int .i64 (j : Int), .int .i64 (t : Int)] w fun ev w' => (m.K.getD j 0 = 2 ∧ i ∉ M.all ∧ ev = .returned (.tuple #[.bool false, .nilIface]) ∧ Stp a w0 h m (M.set t (clK 0)) X w w') ∨ (m.K.getD j 0 ≠ 2 ∧ ev = .returned (.tuple #[.bool true, .nilIface]) ∧ Stp a w0 h m (M.set t ⟨4, 0, i⟩) X w w') := by
  have hjl : j < m.K.length := by rw [s.hm.weaks]; exact (List.getElem?_eq_some_iff.1 hj).1
  rcases s.hm.look t hj with ⟨e, hi⟩ | ⟨e, _, hm⟩
  · have hm := s.hm.plain t (c := clK 0) (by decide) ⟨by decide, by decide, by decide⟩
    rw [wd_clK _ (by omega)] at hm
    exact (hlook_walk s hjl ht false (.inl ⟨rfl, e⟩) (clK 0) (by rw [e]; exact hm)).mono fun ev w' q => .inl ⟨e, hi, q.1, q.2⟩
  · have hne : m.K.getD j 0 ≠ 2 := fun q => by rw [q] at e; exact absurd e (by decide)
    exact (hlook_walk s hjl ht true (.inr ⟨rfl, hne⟩) ⟨4, 0, i⟩ hm).mono fun ev w' q => .inr ⟨hne, q.1, q.2⟩
end Go.Proofs.YtlkcbdinlfeoiaaGreatDoor
namespace Go.Proofs.YtlkcbdinlfeoiaaGreatDoor
open Go.RowKit Go.Maps

variable {sr : Int} {m : MD} {M : MO} {X : MXtra}
/-- A way of some objects to the first one. -/
structure Chain (M : MO) (sz i : Nat) : Prop where
  r0 : M.R[0]? = some ⟨4, 0, i⟩
  r1 : 0 < i → M.R[1]? = some ⟨4, 0, i⟩
  rl : M.R.length = 4
  nl : M.N.length = i + 1
  n0 : M.N[0]? = some (mkN 9 sz)
  nk : ∀ k, 0 < k → k ≤ i → M.N[k]? = some ⟨8, [], [⟨4, 0, k - 1⟩]⟩
theorem sum_le {l : List ND} {b : Nat} (h : ∀ d ∈ l, ndW d ≤ b) : (l.map ndW).sum ≤ b * l.length := by
  induction l with
  | nil => simp
  | cons d l ih =>
    rw [List.map_cons, List.sum_cons, List.length_cons, Nat.mul_succ]
    have := h d (by simp)
    have := ih (fun x hx => h x (by simp [hx]))
    omega
theorem ndW_mk (sz : Nat) : ndW (mkN 9 sz) = 1 + sz := by unfold ndW mkN; simp
theorem Chain.total {sz i : Nat} (C : Chain M sz i) : M.total ≤ (2 + sz) * (i + 1) := by
  have h := sum_le (l := M.N) (b := 2 + sz) (fun d hd => by
    obtain ⟨k, hk⟩ := List.getElem?_of_mem hd
    have hl := (List.getElem?_eq_some_iff.1 hk).1
    rw [C.nl] at hl
    rcases Nat.eq_zero_or_pos k with rfl | h0
    · rw [C.n0] at hk; cases hk; rw [ndW_mk]; omega
    · rw [C.nk k h0 (by omega)] at hk; cases hk; show 1 + 1 ≤ 2 + sz; omega)
  rw [C.nl] at h
  exact h
theorem Chain.begin (sz : Nat) : Chain ((MO.new 4).made 0 (mkN 9 sz)) sz 0 := ⟨rfl, fun h => absurd h (by omega), rfl, rfl, rfl, fun k h0 h1 => by omega⟩
def chainM (M : MO) (i : Nat) : MO := ((M.made 1 (mkN 8 1)).putN (i + 1) (mkN 8 1) 0 ⟨4, 0, i⟩).set 0 ⟨4, 0, i + 1⟩
theorem Chain.next {sz i : Nat} (C : Chain M sz i) : (M.made 1 (mkN 8 1)).R[1]? = some ⟨4, 0, i + 1⟩ ∧ (M.made 1 (mkN 8 1)).N[i + 1]? = some (mkN 8 1) ∧ (M.made 1 (mkN 8 1)).R[0]? = some ⟨4, 0, i⟩ ∧ Chain (chainM M i) sz (i + 1) := by
  have hR : (M.made 1 (mkN 8 1)).R = M.R.set 1 ⟨4, 0, i + 1⟩ := by show M.R.set 1 ⟨4, 0, M.N.length⟩ = _; rw [C.nl]
  have hN : (M.made 1 (mkN 8 1)).N = M.N ++ [mkN 8 1] := rfl
  have hN2 : (chainM M i).N = M.N ++ [⟨8, [], [⟨4, 0, i⟩]⟩] := by
    show (M.N ++ [mkN 8 1]).set (i + 1) _ = _
    rw [List.set_append_right _ _ (by rw [C.nl]; exact Nat.le_refl _), C.nl, Nat.sub_self]
    rfl
  have hR2 : (chainM M i).R = (M.R.set 1 ⟨4, 0, i + 1⟩).set 0 ⟨4, 0, i + 1⟩ := by show (M.made 1 (mkN 8 1)).R.set 0 _ = _; rw [hR]
  have hl := C.rl
  refine ⟨?_, ?_, ?_, ⟨?_, fun _ => ?_, ?_, ?_, ?_, ?_⟩⟩
  · rw [hR, List.getElem?_set_self (by omega)]
  · rw [hN, List.getElem?_append_right (by rw [C.nl]; exact Nat.le_refl _), C.nl, Nat.sub_self]; rfl
  · rw [hR, List.getElem?_set_ne (by omega)]; exact C.r0
  · rw [hR2, List.getElem?_set_self (by rw [List.length_set]; omega)]
  · rw [hR2, List.getElem?_set_ne (by omega), List.getElem?_set_self (by omega)]
  · rw [hR2, List.length_set, List.length_set]; exact hl
  · rw [hN2, List.length_append, C.nl]; rfl
  · rw [hN2, List.getElem?_append_left (by rw [C.nl]; omega)]; exact C.n0
  · intro k h0 h1
    rw [hN2]
    by_cases hk : k ≤ i
    · rw [List.getElem?_append_left (by rw [C.nl]; omega)]; exact C.nk k h0 hk
    · obtain rfl : k = i + 1 := by omega
      rw [List.getElem?_append_right (by rw [C.nl]; exact Nat.le_refl _), C.nl, Nat.sub_self]; rfl
theorem Chain.led {sz i : Nat} (hi : 0 < i) (C : Chain M sz i) (hm : HM m sr (M.set 0 (clK 0)) X) : 0 ∈ (M.set 0 (clK 0)).all := by
  obtain ⟨_, _, a3, a4⟩ := hm.all
  have h1 : i ∈ (M.set 0 (clK 0)).all := a3 ⟨4, 0, i⟩ (by
    refine List.mem_of_getElem? (i := 1) ?_
    show (M.R.set 0 (clK 0))[1]? = _
    rw [List.getElem?_set_ne (by omega)]
    exact C.r1 hi) rfl
  have h2 : ∀ j, j ≤ i → i - j ∈ (M.set 0 (clK 0)).all := fun j => by
    induction j with
    | zero => exact fun _ => h1
    | succ j ih =>
      intro hj
      exact a4 _ (ih (by omega)) _ (C.nk (i - j) (by omega) (by omega)) (by show ¬ (8 : Int) < 8; decide) ⟨4, 0, i - j - 1⟩ (by simp) rfl
  have := h2 i (Nat.le_refl _)
  rwa [Nat.sub_self] at this
theorem Chain.cut {sz : Nat} : (((MO.new 4).made 0 (mkN 9 sz)).set 0 (clK 0)).all = [] := by
  refine allM_none (fun c hc => ?_)
  have hR : (((MO.new 4).made 0 (mkN 9 sz)).set 0 (clK 0)).R = List.replicate 4 ⟨0, 0, 0⟩ := rfl
  rw [hR] at hc
  rw [(List.mem_replicate.1 hc).2]
  decide
set_option maxHeartbeats 4000000 in
set_option maxRecDepth 100000 in
theorem heapWeak_skip (sz deep : Int) (keep : Bool) (w : World) (kh : Calls Tryz.prog 9 #[] w fun ev w' => ev = .returned (.bool true) ∧ Below w.heap.size w w')
    (hc : sz < 0 ∨ (¬ sz < 0 ∧ 20 < sz) ∨ (¬ sz < 0 ∧ ¬ 20 < sz ∧ deep < 0) ∨ (¬ sz < 0 ∧ ¬ 20 < sz ∧ ¬ deep < 0 ∧ 5 < deep)) :
    Calls Tryz.prog 5 #[.int .i64 sz, .bool keep, .int .i64 deep] w fun ev w' => ev = .returned (.bool true) ∧ Below w.heap.size w w' := by
  rcases hc with c1 | ⟨c1, c2⟩ | ⟨c1, c2, c3⟩ | ⟨c1, c2, c3, c4⟩
  all_goals (
    go_enter Tryz.func5, Tryz.ntmps5
    go_wp2_with fail
    refine kh.mono ?_
    clear kh
    rintro ev w1 ⟨rfl, b1⟩
    have HB := toHid b1
    clear b1
    go_wp2_with fail
    go_ret
    exact ⟨rfl, HB.out⟩)
/-- How the law ends: nothing leads to the object but what was kept. -/
theorem weak_end (a : Nat → Addr) {w0 w : World} {h : HP} (q : Nat) (hq : h.q = q) (s : HS a w0 h sr m M X w) (hX : X.K = [0]) (hR : M.R.length = 4) (hl : M.words ≤ 200) (ho : m.old = 256) (keep : Bool) (hk : keep = true → 0 ∈ M.all) (hn : keep = false → 0 ∉ M.all) :
    Calls Tryz.prog 27 #[.pointer (some ⟨q, 0, none⟩)] w fun ev w1 => ev = .returned .nilIface ∧ Calls Tryz.prog 33 #[.pointer (some ⟨q, 0, none⟩), .int .i64 0, .int .i64 3] w1 fun ev w' => ev = .returned (.tuple #[.bool keep, .nilIface]) ∧ Below w0.heap.size w0 w' := by
  have kj := hmajor_any s
  rw [hq] at kj
  refine kj.mono ?_
  rintro ev w1 (⟨rfl, _, hf⟩ | ⟨rfl, h1, sr1, m1, N1, D1, s1, _, _, hw⟩)
  · omega
  · refine ⟨rfl, ?_⟩
    have hj : X.K[0]? = some 0 := by rw [hX]; rfl
    have kl := hlook_any s1 (j := 0) (t := 3) hj (by rw [s1.hm.roots]; omega)
    rw [N1.q, hq] at kl
    refine kl.mono ?_
    rintro ev w' (⟨_, hi, rfl, st⟩ | ⟨hne, rfl, st⟩)
    · obtain ⟨_, _, _, _, _, s'⟩ := st
      cases keep with
      | true => exact absurd (hk rfl) hi
      | false => exact ⟨rfl, s'.base⟩
    · obtain ⟨_, _, _, _, _, s'⟩ := st
      cases keep with
      | true => exact ⟨rfl, s'.base⟩
      | false => exact absurd (hw 0 0 hj (hn rfl)) hne
set_option maxHeartbeats 8000000 in
set_option maxRecDepth 100000 in
theorem heapWeak_good (a : Nat → Addr) (sz D : Nat) (keep : Bool) (n1 : sz ≤ 20) (h1 : D ≤ 5) (w : World) (E : HEnv a w) (kh : Calls Tryz.prog 9 #[] w fun ev w' => ev = .returned (.bool true) ∧ Below w.heap.size w w') :
    Calls Tryz.prog 5 #[.int .i64 (sz : Int), .bool keep, .int .i64 (D : Int)] w fun ev w' => ev = .returned (.bool true) ∧ Below w.heap.size w w' := by
  have HE := toHid E
  have c1 : ¬ (sz : Int) < 0 := by omega
  have c2 : ¬ 20 < (sz : Int) := by omega
  have c3 : ¬ (D : Int) < 0 := by omega
  have c4 : ¬ 5 < (D : Int) := by omega
  clear E
  go_enter Tryz.func5, Tryz.ntmps5
  go_wp2_with fail
  refine kh.mono ?_
  clear kh
  rintro ev w1 ⟨rfl, b1⟩
  have kn := hnew_hs a 64 256 8 1 4 w1 (HE.out.below b1) ⟨⟨by omega, by omega, by omega, by omega, by omega, by omega⟩, by omega, by omega, by omega, by omega⟩
  have HB1 := toHid b1
  clear b1 HE
  go_wp2_with fail
  refine kn.mono ?_
  clear kn
  rintro ev w2 ⟨h, m, rfl, s, _, e2, _⟩
  have hR4 : m.R.length = 4 := s.hm.roots
  have km := hmake_any s 0 sz 9 (by omega) (by omega) (by omega) (by omega)
  have HO := toHid e2
  obtain ⟨q, hq⟩ : ∃ q, q = h.q := ⟨_, rfl⟩
  rw [← hq] at km ⊢
  have HQ := toHid hq
  clear s e2 hq hR4
  go_wp2_with fail
  refine km.mono ?_
  clear km
  rintro ev w3 (⟨rfl, h3, sr3, m3, N3, D3, s3⟩ | ⟨rfl, st, hf⟩)
  rotate_left
  · exfalso
    have hf : m.old < (((MO.new 4).words : Nat) : Int) + (1 + (sz : Int)) := hf
    rw [words_none (M := MO.new 4) (fun c hc => by
      have hc : c ∈ List.replicate 4 (⟨0, 0, 0⟩ : CL) := hc
      rw [(List.mem_replicate.1 hc).2]; decide), HO.out] at hf
    omega
  have kw := hweak_ok s3 (r := 0) (c := ⟨4, 0, 0⟩) rfl rfl (by decide)
  rw [N3.q, ← HQ.out] at kw
  have H3 : Hid (h3.q = q ∧ m3.old = 256) := ⟨N3.q.trans HQ.out.symm, D3.old.trans HO.out⟩
  clear s3 N3 D3 HO HQ
  go_wp2_with fail
  refine kw.mono ?_
  clear kw
  rintro ev w4 ⟨rfl, h4, sr4, m4, N4, D4, s4⟩
  have H4 : Hid (h4.q = q ∧ m4.old = 256) := ⟨N4.q.trans H3.out.1, D4.old.trans H3.out.2⟩
  have HS4 : Hid (HS a w1 h4 sr4 m4 ((MO.new 4).made 0 (mkN 9 sz)) ⟨[0], fun _ => 0, 0⟩ w4) := s4
  clear s4 N4 D4 H3
  have hx0 : ((MXtra.new.K.length : Nat) : Int) = 0 := rfl
  rw [hx0]
  clear hx0
  cases keep with
  | false =>
    have hR4 : m4.R.length = 4 := HS4.out.hm.roots
    have kc := hconst_any HS4.out 0 0 (by omega) (by omega)
    rw [H4.out.1] at kc
    clear hR4
    go_wp2_with fail
    refine kc.mono ?_
    clear kc
    rintro ev w5 ⟨rfl, h5, sr5, m5, N5, D5, s5⟩
    have ke := weak_end a q (N5.q.trans H4.out.1) s5 rfl rfl (by rw [words_eq, Chain.cut]; exact Nat.zero_le _) (D5.old.trans H4.out.2) false (fun e => by cases e) (fun _ => by rw [Chain.cut]; simp)
    clear s5 N5 D5 HS4 H4
    go_wp2_with fail
    refine ke.mono ?_
    clear ke
    rintro ev w6 ⟨rfl, kl⟩
    go_wp2_with fail
    refine kl.mono ?_
    clear kl
    rintro ev w7 ⟨rfl, b7⟩
    have HBF : Hid (Below w.heap.size w w7) := HB1.out.trans (b7.mono HB1.out.size)
    clear b7
    go_wp2_with fail
    go_ret
    exact ⟨by simp, HBF.out⟩
  | true =>
    go_wp2_with fail
    go_loopg [11] (D + 2) (fun gk v11 wr => ∃ i : Nat, gk = D + 2 - i ∧ i ≤ D + 1 ∧ v11 = .int .i64 (i : Int) ∧ ∃ M h' sr' m', Hid (Chain M sz i) ∧ Hid (HS a w1 h' sr' m' M ⟨[0], fun _ => 0, 0⟩ wr) ∧ Hid (h'.q = q ∧ m'.old = 256))
    case atStart => exact ⟨0, rfl, Nat.zero_le _, rfl, _, h4, sr4, m4, Chain.begin sz, HS4, H4⟩
    case round =>
      obtain ⟨i, hgk, hi', rfl, M, h5, sr5, m5, HC, HSr, HP⟩ := hrel
      have HG := toHid hgk
      have hi0 : (0 : Int) ≤ (i : Int) := by omega
      clear hgk HS4 H4
      have hR4 : m5.R.length = 4 := HSr.out.hm.roots.trans HC.out.rl
      have ht : M.total ≤ 22 * 7 := by
        refine Nat.le_trans HC.out.total ?_
        exact Nat.mul_le_mul (by omega) (by omega)
      have hw := HSr.out.hm.few
      by_cases hlt : i ≤ D
      · have hI : (i : Int) ≤ (D : Int) := by omega
        have km := hmake_any HSr.out 1 1 8 (by omega) (by omega) (by omega) (by omega)
        rw [HP.out.1] at km
        have HTW := toHid (Nat.le_trans hw ht)
        clear ht hw
        go_wp2_with fail
        refine km.mono ?_
        clear km
        rintro ev w6 (⟨rfl, h6, sr6, m6, N6, D6, s6⟩ | ⟨rfl, st, hf⟩)
        rotate_left
        · exfalso
          have hf : m5.old < ((M.words : Nat) : Int) + (1 + ((1 : Nat) : Int)) := hf
          rw [HP.out.2] at hf
          have := HTW.out
          omega
        obtain ⟨p1, p2, p3, p4⟩ := HC.out.next
        have kp := hput_any s6 (r := 1) (k := 0) (j := 0) (c := ⟨4, 0, i + 1⟩) (v := ⟨4, 0, i⟩) (d := mkN 8 1) p1 rfl p2 (by decide) (by decide) p3
        have H6 : Hid (h6.q = q ∧ m6.old = 256) := ⟨N6.q.trans HP.out.1, D6.old.trans HP.out.2⟩
        rw [H6.out.1] at kp
        have HC7 := toHid p4
        have HP1 := toHid p1
        clear s6 N6 D6 p1 p2 p3 p4
        go_wp2_with fail
        refine kp.mono ?_
        clear kp
        rintro ev w7 ⟨rfl, h7, sr7, m7, N7, D7, s7⟩
        have hR7 : m7.R.length = 4 := s7.hm.roots.trans ((List.length_set ..).trans HC.out.rl)
        have kc := hcopy_any s7 0 1 ⟨4, 0, i + 1⟩ (by omega) HP1.out
        have H7 : Hid (h7.q = q ∧ m7.old = 256) := ⟨N7.q.trans H6.out.1, D7.old.trans H6.out.2⟩
        rw [H7.out.1] at kc
        clear s7 N7 D7 hR7
        go_wp2_with fail
        refine kc.mono ?_
        clear kc
        rintro ev w8 ⟨rfl, h8, sr8, m8, N8, D8, s8⟩
        have H8 : Hid (h8.q = q ∧ m8.old = 256) := ⟨N8.q.trans H7.out.1, D8.old.trans H7.out.2⟩
        have HS8 : Hid (HS a w1 h8 sr8 m8 (chainM M i) ⟨[0], fun _ => 0, 0⟩ w8) := s8
        clear s8 N8 D8
        go_wp2_with fail
        go_roundg (D + 2 - (i + 1))
        case measure => have := HG.out; omega
        case rel => exact ⟨i + 1, rfl, by omega, by go_num, _, h8, sr8, m8, HC7, HS8, H8⟩
      · have hI : ¬ (i : Int) ≤ (D : Int) := by omega
        obtain rfl : i = D + 1 := by omega
        have kc := hconst_any HSr.out 0 0 (by omega) (by omega)
        rw [HP.out.1] at kc
        have HTW := toHid ht
        clear ht hw hR4
        go_wp2_with fail
        refine kc.mono ?_
        clear kc
        rintro ev w5 ⟨rfl, h6, sr6, m6, N6, D6, s6⟩
        have ke := weak_end a q (N6.q.trans HP.out.1) s6 rfl ((List.length_set ..).trans HC.out.rl) (by
          have h1 := s6.hm.few
          have h2 : (M.set 0 (clK 0)).total = M.total := rfl
          rw [h2] at h1
          have := HTW.out
          omega) (D6.old.trans HP.out.2) true (fun _ => HC.out.led (by omega) s6.hm) (fun e => by cases e)
        clear s6 N6 D6
        go_wp2_with fail
        refine ke.mono ?_
        clear ke
        rintro ev w6 ⟨rfl, kl⟩
        go_wp2_with fail
        refine kl.mono ?_
        clear kl
        rintro ev w7 ⟨rfl, b7⟩
        have HBF : Hid (Below w.heap.size w w7) := HB1.out.trans (b7.mono HB1.out.size)
        clear b7
        go_wp2_with fail
        go_ret
        exact ⟨by simp, HBF.out⟩
theorem heapWeak_any (a : Nat → Addr) (sz deep : Int) (keep : Bool) (w : World) (E : HEnv a w) :
    Calls Tryz.prog 5 #[.int .i64 sz, .bool keep, .int .i64 deep] w fun ev w' => ev = .returned (.bool true) ∧ Below w.heap.size w w' := by
  have kh := hold_any a w E
  by_cases hc : 0 ≤ sz ∧ sz ≤ 20 ∧ 0 ≤ deep ∧ deep ≤ 5
  · obtain ⟨a1, a2, a3, a4⟩ := hc
    obtain ⟨S, rfl⟩ : ∃ S : Nat, sz = (S : Int) := ⟨sz.toNat, by omega⟩
    obtain ⟨D, rfl⟩ : ∃ D : Nat, deep = (D : Int) := ⟨deep.toNat, by omega⟩
    exact heapWeak_good a S D keep (by omega) (by omega) w E kh
  · exact heapWeak_skip sz deep keep w kh (by omega)
end Go.Proofs.YtlkcbdinlfeoiaaGreatDoor
