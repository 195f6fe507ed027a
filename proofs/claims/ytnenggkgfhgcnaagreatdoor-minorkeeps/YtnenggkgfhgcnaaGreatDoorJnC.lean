/- Package minor: a field follows (followField), by a contract. -/
import Derived.Test.YtnenggkgfhgcnaaGreatDoorJnB
namespace Go.Proofs.YtnenggkgfhgcnaaGreatDoor
open Go.RowKit Go.Maps

/-- What lies in a cell. -/
def valAt (g o : Nat) (W : World) : Value := (W.cell? ⟨g, o, none⟩).getD undef
theorem valAt_of {g o : Nat} {W : World} {v : Value} (h : W.cell? ⟨g, o, none⟩ = some v) : valAt g o W = v := by unfold valAt; rw [h]; rfl
theorem valAt_some {g o : Nat} {W : World} (h : ∃ v, W.cell? ⟨g, o, none⟩ = some v) : W.cell? ⟨g, o, none⟩ = some (valAt g o W) := by obtain ⟨v, h⟩ := h; rw [valAt_of h]; exact h
/-- Behind a field that follows, ahead of its card. -/
def CS.put (e : CE) (s : CS) (y : Nat) : CS := { s.follow e (s.W.getD y 0) with W := (s.follow e (s.W.getD y 0)).W.set y (s.word e (s.W.getD y 0)) }
/-- Behind a field that follows. -/
def CS.field (e : CE) (s : CS) (y : Nat) : CS := (s.put e y).mark e y
set_option maxHeartbeats 4000000 in
set_option maxRecDepth 100000 in
theorem cfield_any (a : Nat → Addr) (e : CE) (s : CS) (y : Nat) (w : World) (H : CopAt e s w) (O : CSOK e s) (F : Fits e.half e.old e.card e.nW e.nC e.used e.top e.oldTop) (hy : y < e.nW) (E : ∀ w', Aside e.own w w' → WErr a w')
    (hc : (nowP e.lo e.hi s.φ (s.W.getD y 0)).2 = false → CanCopy e s (ptI (s.W.getD y 0)).toNat ∧ ∀ f t, (s.copy e (ptI (s.W.getD y 0)).toNat).φ f = some t → t ≤ 300000)
    (O' : CSOK e (s.follow e (s.W.getD y 0))) (hlC' : (s.follow e (s.W.getD y 0)).C.length = e.nC) :
    Calls Tryz.prog 70 #[.pointer (some ⟨e.q, 0, none⟩), .int .i64 (y : Int)] w fun ev w' => ev = .returned (.tuple #[]) ∧ CopAt e (s.field e y) w' ∧ Aside e.own w w' := by
  obtain ⟨x, hxe⟩ : ∃ x, x = s.W.getD y 0 := ⟨_, rfl⟩
  have hyl : y < s.W.length := by rw [O.len]; exact hy
  have hx : s.W[y]? = some x := by rw [hxe, List.getD_eq_getElem?_getD, List.getElem?_eq_getElem hyl]; rfl
  obtain ⟨x0, x1⟩ := O.u64 x (List.mem_of_getElem? hx)
  rw [← hxe] at hc O' hlC'
  have HFI : Hid (s.field e y = CS.mark e { s.follow e x with W := (s.follow e x).W.set y (s.word e x) } y) := by show _ = _; unfold CS.field CS.put; rw [← hxe]
  have kf := cfollow_any a e s x w.drew (H.below (Below.refl _ _).drew) O x0 x1 (fun w' h => E w' ((Aside.of_below (Below.refl _ _).drew).trans h)) hc
  obtain ⟨s', hs'⟩ : ∃ s', s' = s.follow e x := ⟨_, rfl⟩
  obtain ⟨z, hz⟩ : ∃ z, z = s.word e x := ⟨_, rfl⟩
  have hz01 : 0 ≤ z ∧ z < 18446744073709551616 := by rw [hz]; exact nowP_range O'.φ x0 x1
  rw [← hs', ← hz] at kf HFI
  rw [← hs'] at O' hlC'
  have hyl' : y < s'.W.length := by rw [O'.len]; exact hy
  obtain ⟨hq1, hq2, hq3, hq4, hq5, hq6, hq7, hq8, hq9, hq10⟩ := H.ne
  obtain ⟨d0, _, _, _, _, _, _, _, _, dm⟩ := H.cells
  have cx : w.cell? ⟨e.bW, y, none⟩ = some (.int .u64 x) := H.hW.cell (wordsV_at hx)
  have HV : Hid (valAt e.bW y w.drew = .int .u64 x) := valAt_of cx
  have HS0 : Hid (w.drew.cell? ⟨e.q, 0, none⟩ = some (.pointer (some ⟨e.p, 0, none⟩)) ∧ w.drew.cell? ⟨e.p, 3, none⟩ = some (.slice (some ⟨e.bW, 0, none⟩) e.nW e.cW) ∧ w.drew.cell? ⟨e.bW, y, none⟩ = some (valAt e.bW y w.drew)) := ⟨d0, dm, valAt_some ⟨_, cx⟩⟩
  have HS1 : Hid (∀ w1, CopAt e s' w1 → w1.cell? ⟨e.q, 0, none⟩ = some (.pointer (some ⟨e.p, 0, none⟩)) ∧ w1.cell? ⟨e.p, 3, none⟩ = some (.slice (some ⟨e.bW, 0, none⟩) e.nW e.cW) ∧ w1.cell? ⟨e.bW, y, none⟩ = some (valAt e.bW y w1)) := fun w1 h1 => by
    obtain ⟨d0, _, _, _, _, _, _, _, _, dm⟩ := h1.cells
    exact ⟨d0, dm, valAt_some ⟨_, h1.hW.cell (List.getElem?_eq_getElem (by rw [lenV]; exact hyl'))⟩⟩
  have HS2 : Hid (∀ w1, CopAt e s' w1 → CopAt e { s' with W := s'.W.set y z } (w1.setCell ⟨e.bW, y, none⟩ (.int .u64 z))) := fun w1 h1 => by
    refine h1.words ((Aside.refl (fun k => k = e.bW) w1).setCell (g := e.bW) rfl _) _ ?_
    rw [← wordsV_set]
    exact h1.hW.set (by rw [lenV]; exact hyl') _
  have HS3 : Hid (∀ w1, CopAt e { s' with W := s'.W.set y z } w1 → w1.cell? ⟨e.q, 0, none⟩ = some (.pointer (some ⟨e.p, 0, none⟩)) ∧ w1.cell? ⟨e.p, 3, none⟩ = some (.slice (some ⟨e.bW, 0, none⟩) e.nW e.cW) ∧ w1.cell? ⟨e.bW, y, none⟩ = some (valAt e.bW y w1)) := fun w1 h1 => by
    obtain ⟨d0, _, _, _, _, _, _, _, _, dm⟩ := h1.cells
    exact ⟨d0, dm, valAt_some ⟨_, h1.hW.cell (List.getElem?_eq_getElem (by rw [lenV, List.length_set]; exact hyl'))⟩⟩
  have HKM : Hid (∀ w1, CopAt e { s' with W := s'.W.set y z } w1 → Aside e.own w w1 → Calls Tryz.prog 101 #[.pointer (some ⟨e.p, 0, none⟩), .int .i64 (y : Int)] w1 fun ev w' => ev = .returned (.tuple #[]) ∧ CopAt e (CS.mark e { s' with W := s'.W.set y z } y) w' ∧ Aside e.own w w') := fun w1 h1 a1 => by
    refine (cmark_any a e _ y z w1 h1 F (by show (s'.W.set y z).length = e.nW; rw [List.length_set]; exact O'.len) hlC' (by show (s'.W.set y z)[y]? = some z; rw [List.getElem?_set_self hyl']) hz01.1 hz01.2 (E w1 a1)).mono ?_
    rintro ev w' ⟨rfl, h2, a2⟩
    exact ⟨rfl, h2, a1.trans a2⟩
  have hI : (y : Int) < (e.nW : Int) := by omega
  have hI0 : (0 : Int) ≤ (y : Int) := by omega
  have HKF := toHid kf
  have HFZ : Hid (∀ w1, CopAt e s' w1 → w1.frozen? ⟨e.bW, y, none⟩ = false) := fun w1 h1 => h1.hW.frozen y
  have HA0 : Hid (∀ w1, Aside e.own w.drew w1 → Aside e.own w w1) := fun w1 h => (Aside.of_below (Below.refl _ _).drew).trans h
  have HOW : Hid (e.own e.bW) := Or.inr (Or.inr (Or.inl rfl))
  clear H O O' hs' hz hc E hx hxe kf d0 dm cx hlC'
  go_enter Tryz.func70, Tryz.ntmps70
  go_upto_region 0 with fail
  have d0 := HS0.out.1
  have dm := HS0.out.2.1
  have cx : w.drew.cell? ⟨e.bW, y, none⟩ = some (.int .u64 x) := by rw [HS0.out.2.2, HV.out]
  go_region_law (first | (go_simp; go_at_call 100; refine HKF.out.mono ?_; rintro ev w1 ⟨rfl, h1, a1⟩; have H1 := toHid h1; have A1 := toHid a1; have f1 := HFZ.out w1 h1; obtain ⟨k0, km, kx⟩ := HS1.out w1 h1; clear h1 a1))
  all_goals (
    have h2 := HS2.out _ H1.out
    have a2 : Aside e.own w (w1.setCell ⟨e.bW, y, none⟩ (.int .u64 z)) := (HA0.out _ A1.out).setCell HOW.out _
    have km2 := HKM.out _ h2 a2
    obtain ⟨k02, _, _⟩ := HS3.out _ h2
    clear k0 km kx f1 d0 dm cx h2 a2
    generalize w1.setCell ⟨e.bW, y, none⟩ (.int .u64 z) = w2 at *
    go_wp2_with fail
    refine km2.mono ?_
    clear km2
    rintro ev w3 ⟨rfl, h3, a3⟩
    have H3 := toHid h3
    have A3 := toHid a3
    clear h3 a3
    go_wp2_with fail
    go_end0
    exact ⟨rfl, by rw [HFI.out]; exact H3.out, A3.out⟩)
end Go.Proofs.YtnenggkgfhgcnaaGreatDoor

/- Package minor: words of a row follow (followAll), by a contract. -/
namespace Go.Proofs.YtnenggkgfhgcnaaGreatDoor
open Go.RowKit Go.Maps

/-- Behind the first words of a row that follow, one by one. -/
def CS.followN (e : CE) (s : CS) (R : List Int) : Nat → CS
  | 0 => s
  | i + 1 => (s.followN e R i).follow e (R.getD i 0)
/-- What the first words of a row have become. -/
def CS.rowN (e : CE) (s : CS) (R : List Int) : Nat → List Int
  | 0 => R
  | i + 1 => (s.rowN e R i).set i ((s.followN e R i).word e (R.getD i 0))
theorem rowN_len (e : CE) (s : CS) (R : List Int) : ∀ i, (s.rowN e R i).length = R.length
  | 0 => rfl
  | i + 1 => by unfold CS.rowN; rw [List.length_set]; exact rowN_len e s R i
theorem rowN_at (e : CE) (s : CS) (R : List Int) : ∀ i j : Nat, i ≤ j → (s.rowN e R i)[j]? = R[j]?
  | 0, _, _ => rfl
  | i + 1, j, h => by unfold CS.rowN; rw [List.getElem?_set_ne (by omega)]; exact rowN_at e s R i j (by omega)
set_option maxHeartbeats 4000000 in
set_option maxRecDepth 100000 in
theorem followAll_any (a : Nat → Addr) (e : CE) (s : CS) (R : List Int) (g cap : Nat) (w : World) (H : CopAt e s w) (hU : U64 R) (hR : R.length ≤ 300000) (B : Blk g 50 (wordsV R) w) (hg : ¬ (g = e.q ∨ g = e.p ∨ g = e.bm ∨ g = e.bW ∨ g = e.bC)) (E : ∀ w', Aside (fun k => e.own k ∨ k = g) w w' → WErr a w')
    (hO : ∀ i, i < R.length → CSOK e (s.followN e R i))
    (hc : ∀ i, i < R.length → (nowP e.lo e.hi (s.followN e R i).φ (R.getD i 0)).2 = false → CanCopy e (s.followN e R i) (ptI (R.getD i 0)).toNat ∧ ∀ f t, ((s.followN e R i).copy e (ptI (R.getD i 0)).toNat).φ f = some t → t ≤ 300000) :
    Calls Tryz.prog 69 #[.pointer (some ⟨e.q, 0, none⟩), .slice (some ⟨g, 0, none⟩) R.length cap] w fun ev w' => ev = .returned (.tuple #[]) ∧ CopAt e (s.followN e R R.length) w' ∧ Blk g 50 (wordsV (s.rowN e R R.length)) w' ∧ Aside (fun k => e.own k ∨ k = g) w w' := by
  have HE := toHid E
  have HO := toHid hO
  have HC := toHid hc
  have HU := toHid hU
  have HG := toHid hg
  have H0 := toHid H
  have HB0 := toHid B
  clear E hO hc hU hg H B
  go_enter Tryz.func69, Tryz.ntmps69
  go_wp2_with fail
  go_loopg [8] (R.length + 1) (fun gk v8 wr => ∃ i : Nat, gk = R.length + 1 - i ∧ i ≤ R.length ∧ v8 = .int .i64 (i : Int) ∧ Hid (CopAt e (s.followN e R i) wr) ∧ Hid (Blk g 50 (wordsV (s.rowN e R i)) wr) ∧ Hid (Aside (fun k => e.own k ∨ k = g) w wr))
  case atStart => exact ⟨0, rfl, Nat.zero_le _, rfl, H0, HB0, Aside.refl _ _⟩
  case round =>
    obtain ⟨i, hgk, hi', rfl, hH, hB, hA⟩ := hrel
    have HGK := toHid hgk
    clear hgk
    have hi0 : (0 : Int) ≤ (i : Int) := by omega
    by_cases hlt : i < R.length
    · have hI : (i : Int) < (R.length : Int) := by omega
      obtain ⟨x, hxe⟩ : ∃ x, x = R.getD i 0 := ⟨_, rfl⟩
      have hx : R[i]? = some x := by rw [hxe, List.getD_eq_getElem?_getD, List.getElem?_eq_getElem hlt]; rfl
      have hm := (rowN_at e s R i i (Nat.le_refl _)).trans hx
      have cx := hB.out.cell (wordsV_at hm)
      have hux := HU.out x (List.mem_of_getElem? hx)
      have hci := HC.out i hlt
      rw [← hxe] at hci
      have kf := cfollow_any a e (s.followN e R i) x wr hH.out (HO.out i hlt) hux.1 hux.2 (fun w' h => HE.out w' (hA.out.trans (h.mono (fun k hk => Or.inl hk)))) hci
      have HST : Hid (s.followN e R (i + 1) = (s.followN e R i).follow e x ∧ s.rowN e R (i + 1) = (s.rowN e R i).set i ((s.followN e R i).word e x)) := by
        refine ⟨?_, ?_⟩
        · show (s.followN e R i).follow e (R.getD i 0) = _; rw [← hxe]
        · show (s.rowN e R i).set i ((s.followN e R i).word e (R.getD i 0)) = _; rw [← hxe]
      obtain ⟨z, hz⟩ : ∃ z, z = (s.followN e R i).word e x := ⟨_, rfl⟩
      obtain ⟨s1, hs1⟩ : ∃ s1, s1 = (s.followN e R i).follow e x := ⟨_, rfl⟩
      rw [← hz, ← hs1] at kf HST
      clear hm hx hux hxe hci hz hs1
      go_wp2_with fail
      refine kf.mono ?_
      clear kf
      rintro ev w1 ⟨rfl, h1, a1⟩
      have hng : ¬ e.own g := fun h => HG.out (by rcases h with h | h | h | h <;> simp [h])
      have B1 := hB.out.aside a1 hng
      have hl1 : i < (wordsV (s.rowN e R i)).length := by rw [lenV, rowN_len]; exact hlt
      obtain ⟨u1, cu1⟩ : ∃ u, w1.cell? ⟨g, i, none⟩ = some u := ⟨_, B1.cell (List.getElem?_eq_getElem hl1)⟩
      have fz := B1.frozen i
      have B2 := toHid (B1.set hl1 (.int .u64 z))
      have aS : Aside (· = g) w1 (w1.setCell ⟨g, i, none⟩ (.int .u64 z)) := (Aside.refl (fun k => k = g) w1).setCell (g := g) rfl _
      have H2 := toHid (h1.aside aS (fun k hk e1 => HG.out (by rw [← (show k = g from e1)]; exact hk)))
      have A2 : Hid (Aside (fun k => e.own k ∨ k = g) w (w1.setCell ⟨g, i, none⟩ (.int .u64 z))) := (hA.out.trans (a1.mono (fun k hk => Or.inl hk))).trans (aS.mono (fun k hk => Or.inr hk))
      clear h1 a1 B1 hl1 aS cx hA hB hH hng
      go_wp2_with fail
      go_roundg (R.length + 1 - (i + 1))
      case measure => have := HGK.out; omega
      case rel => exact ⟨i + 1, rfl, by omega, by go_num, by rw [HST.out.1]; exact H2, by rw [HST.out.2, ← wordsV_set]; exact B2, A2⟩
    · have hI : ¬ (i : Int) < (R.length : Int) := by omega
      obtain rfl : i = R.length := by omega
      go_wp2_with fail
      go_end0
      exact ⟨rfl, hH.out, hB.out, hA.out⟩
end Go.Proofs.YtnenggkgfhgcnaaGreatDoor

/- Package minor: what was copied is gone through (scanPart), by a contract. -/
namespace Go.Proofs.YtnenggkgfhgcnaaGreatDoor
open Go.RowKit Go.Maps

/-- What followField wants of a copier. -/
structure FieldOK (e : CE) (s : CS) (y : Nat) : Prop where
  ok : CSOK e s
  lt : y < e.nW
  can : (nowP e.lo e.hi s.φ (s.W.getD y 0)).2 = false → CanCopy e s (ptI (s.W.getD y 0)).toNat ∧ ∀ f t, (s.copy e (ptI (s.W.getD y 0)).toNat).φ f = some t → t ≤ 300000
  ok' : CSOK e (s.follow e (s.W.getD y 0))
  cards : (s.follow e (s.W.getD y 0)).C.length = e.nC
/-- Behind the first fields of an object that follow. -/
def CS.fieldsN (e : CE) (s : CS) (f : Nat) : Nat → CS
  | 0 => s
  | k + 1 => (s.fieldsN e f k).field e (f + 1 + k)
/-- Behind all fields of an object. -/
def CS.obj (e : CE) (s : CS) (f : Nat) : CS := if s.W.getD f 0 / 4 % 256 < 8 then s else s.fieldsN e f (szN (s.W.getD f 0))
/-- What going through an object wants. -/
structure ObjOK (e : CE) (s : CS) (f : Nat) : Prop where
  ok : CSOK e s
  head : headB (s.W.getD f 0) = true
  fit : f + 1 + szN (s.W.getD f 0) ≤ e.nW
  fields : ¬ s.W.getD f 0 / 4 % 256 < 8 → ∀ k, k < szN (s.W.getD f 0) → FieldOK e (s.fieldsN e f k) (f + 1 + k)
theorem CopAt.setYd {e : CE} {s : CS} {w : World} (h : CopAt e s w) (n : Nat) : CopAt e { s with yd := n } (w.setCell ⟨e.q, 5, none⟩ (.int .i64 (n : Int))) := by
  obtain ⟨n1, n2, n3, n4, n5, n6, n7, n8, n9, n10⟩ := h.ne
  obtain ⟨k, D, hn, hm, hW⟩ := h.hm
  have ha : Aside (· = e.q) w (w.setCell ⟨e.q, 5, none⟩ (.int .i64 (n : Int))) := (Aside.refl (fun k => k = e.q) w).setCell (g := e.q) rfl _
  exact ⟨by rw [heap_set_same h.hq]; rfl, (ha.block _ (lt_of_heap h.hp) n1.symm).trans h.hp, h.hW.aside ha n3.symm, h.hC.aside ha n4.symm, k, D, hn, ownsMap_aside hm ha n2.symm, hW⟩
theorem CopAt.setGd {e : CE} {s : CS} {w : World} (h : CopAt e s w) (n : Nat) : CopAt e { s with gd := n } (w.setCell ⟨e.q, 7, none⟩ (.int .i64 (n : Int))) := by
  obtain ⟨n1, n2, n3, n4, n5, n6, n7, n8, n9, n10⟩ := h.ne
  obtain ⟨k, D, hn, hm, hW⟩ := h.hm
  have ha : Aside (· = e.q) w (w.setCell ⟨e.q, 7, none⟩ (.int .i64 (n : Int))) := (Aside.refl (fun k => k = e.q) w).setCell (g := e.q) rfl _
  exact ⟨by rw [heap_set_same h.hq]; rfl, (ha.block _ (lt_of_heap h.hp) n1.symm).trans h.hp, h.hW.aside ha n3.symm, h.hC.aside ha n4.symm, k, D, hn, ownsMap_aside hm ha n2.symm, hW⟩
/-- One object of this part is gone through. -/
def CS.scanY (e : CE) (s : CS) : CS := { s.obj e s.yd with yd := s.yd + 1 + szN (s.W.getD s.yd 0) }
set_option maxHeartbeats 4000000 in
set_option maxRecDepth 100000 in
theorem scanY_any (a : Nat → Addr) (e : CE) (s0 : CS) (w : World) (H : CopAt e s0 w) (F : Fits e.half e.old e.card e.nW e.nC e.used e.top e.oldTop) (E : ∀ w', Aside e.own w w' → WErr a w') (Inv : CS → Prop) (μ : CS → Nat) (h0 : Inv s0)
    (hI : ∀ s, Inv s → s.yd ≤ 300000 ∧ s.yt ≤ 300000 ∧ (s.yd < s.yt → ObjOK e s s.yd ∧ Inv (s.scanY e) ∧ μ (s.scanY e) < μ s)) :
    Calls Tryz.prog 102 #[.pointer (some ⟨e.q, 0, none⟩), .pointer (some ⟨e.q, 5, none⟩)] w fun ev w' => ev = .returned (.tuple #[]) ∧ ∃ s, Inv s ∧ ¬ s.yd < s.yt ∧ CopAt e s w' ∧ Aside e.own w w' := by
  have HI := toHid hI
  have HE := toHid E
  have HF := toHid F
  have H0 := toHid H
  have HI0 := toHid h0
  clear H E F hI h0
  go_enter Tryz.func102, Tryz.ntmps102
  go_wp2_with fail
  go_loopg [] (μ s0 + 1) (fun gk wr => ∃ s, gk = μ s + 1 ∧ Hid (Inv s) ∧ Hid (CopAt e s wr) ∧ Hid (Aside e.own w wr))
  case atStart => exact ⟨s0, rfl, HI0, H0, Aside.refl _ _⟩
  case round =>
    obtain ⟨s, hgk, hi, hH, hA⟩ := hrel
    have HGK := toHid hgk
    clear hgk
    obtain ⟨b1, b2, hst⟩ := HI.out s hi.out
    have HST := toHid hst
    obtain ⟨c0, c1, c2, c3, c4, c5, c6, c7, c8, cm⟩ := hH.out.cells
    clear hst
    by_cases hlt : s.yd < s.yt
    · have hlI : (s.yd : Int) < (s.yt : Int) := by omega
      obtain ⟨hob, hinv, hmu⟩ := HST.out hlt
      obtain ⟨x, hxe⟩ : ∃ x, x = s.W.getD s.yd 0 := ⟨_, rfl⟩
      have hfl : s.yd < s.W.length := by have := hob.fit; have := hob.ok.len; omega
      have hx : s.W[s.yd]? = some x := by rw [hxe, List.getD_eq_getElem?_getD, List.getElem?_eq_getElem hfl]; rfl
      obtain ⟨x0, x1⟩ := hob.ok.u64 x (List.mem_of_getElem? hx)
      have hhd := hob.head
      have hfit := hob.fit
      have hfew := hob.ok.few
      rw [← hxe] at hhd hfit
      obtain ⟨E1, E2, E3⟩ := of_decide_eq_true hhd
      have hsz : x / 65536 = (szN x : Int) := by unfold szN; omega
      obtain ⟨n, hn⟩ : ∃ n, n = szN x := ⟨_, rfl⟩
      obtain ⟨kd, hkd⟩ : ∃ kd, kd = x / 4 % 256 := ⟨_, rfl⟩
      have hk0 : 0 ≤ kd := by omega
      have kh := fun w1 (b1 : Below wr.heap.size wr w1) => chead_any e s s.yd x w1 (hH.out.below b1) hx (by omega) x0 x1 hhd
      unfold headV at kh
      rw [hsz, ← hn, ← hkd] at kh
      rw [← hn] at hfit
      have HKH := toHid kh
      have HOB := toHid hob
      have HINV := toHid hinv
      have HMU := toHid hmu
      have HXE := toHid hxe
      have HN := toHid hn
      have HKD := toHid hkd
      generalize x / 1024 % 16 = ag at *
      generalize x / 16384 % 2 = mk at *
      clear hob hinv hmu hhd E1 E2 E3 hsz hn hkd hx x0 x1 hfl kh hxe
      go_wp2_with fail
      go_quiet (fail)
      obtain ⟨w1, hw1⟩ : ∃ w1, w1 = wr.drewN nq := ⟨_, rfl⟩
      rw [← hw1]
      have b1 : Below wr.heap.size wr w1 := by rw [hw1]; exact below_drewN (Below.refl _ _)
      have H1 := hH.out.below b1
      have kh := HKH.out w1 b1
      have HB1 := toHid b1
      clear hw1 b1 c0 c1 c2 c3 c4 c5 c6 c7 c8 cm
      obtain ⟨c0, c1, c2, c3, c4, c5, c6, c7, c8, cm⟩ := H1.cells
      clear H1
      go_wp2_with fail
      refine kh.mono ?_
      clear kh
      rintro ev w2 ⟨rfl, b2⟩
      go_upto_region 2 with fail
      obtain ⟨w3, hw3⟩ : ∃ w3, w3 = w2.alloc (.cells #[.int .i64 kd, .int .i64 ag, .int .i64 mk, .int .i64 (n : Int)] 92) := ⟨_, rfl⟩
      obtain ⟨bo, hbo⟩ : ∃ bo, bo = w2.heap.size := ⟨_, rfl⟩
      have b13 : Below w1.heap.size w1 w3 := by rw [hw3]; exact b2.alloc b2.size _
      have b3 : Below wr.heap.size wr w3 := HB1.out.trans (b13.mono HB1.out.size)
      have n3 : w3.heap[bo]? = some (.cells #[.int .i64 kd, .int .i64 ag, .int .i64 mk, .int .i64 (n : Int)] 92) := by rw [hw3, hbo]; exact heap_alloc_new _ _
      have hbw : wr.heap.size ≤ bo := by rw [hbo]; exact Nat.le_trans HB1.out.size b2.size
      rw [← hw3, ← hbo]
      obtain ⟨o0, o1, o2, o3, _⟩ := head_block n3
      have H3 := hH.out.below b3
      clear c0 c1 c2 c3 c4 c5 c6 c7 c8 cm
      obtain ⟨c0, c1, c2, c3, c4, c5, c6, c7, c8, cm⟩ := H3.cells
      obtain ⟨en, hen⟩ : ∃ en, en = s.yd + 1 + n := ⟨_, rfl⟩
      have g1 : IntKind.i64.wrap ((s.yd : Int) + 1) = (s.yd : Int) + 1 := by rw [IntKind.wrap_i64]; omega
      have g2 : IntKind.i64.wrap ((s.yd : Int) + 1 + (n : Int)) = (en : Int) := by rw [IntKind.wrap_i64]; omega
      have HEN := toHid hen
      have HN3 := toHid n3
      have HB3 := toHid b3
      have HH3 := toHid H3
      have HBW := toHid hbw
      clear hw3 hbo b13 b3 n3 hbw H3 hen b2 HB1
      go_quiet (fail)
      obtain ⟨w4, hw4⟩ : ∃ w4, w4 = w3.drewN nq := ⟨_, rfl⟩
      rw [← hw4]
      have b34 : Below w3.heap.size w3 w4 := by rw [hw4]; exact below_drewN (Below.refl _ _)
      have H4 := HH3.out.below b34
      have n4 := (b34.block _ (lt_of_heap HN3.out)).trans HN3.out
      have A4 : Hid (Aside e.own w w4) := hA.out.trans (Aside.of_below (HB3.out.trans (b34.mono HB3.out.size)))
      have hbo : ¬ e.own bo := fun h => by
        have q1 := lt_of_heap hH.out.hq
        have q3 := hH.out.hW.lt
        have q4 := hH.out.hC.lt
        obtain ⟨_, _, _, hm, _⟩ := hH.out.hm
        have q5 := hm.lt
        have q6 := HBW.out
        rcases h with h | h | h | h <;> omega
      have HBO := toHid hbo
      have HH4 := toHid H4
      have HN4 := toHid n4
      clear c0 c1 c2 c3 c4 c5 c6 c7 c8 cm o0 o1 o2 o3 hw4 b34 n4 hbo HN3 HB3 HH3
      obtain ⟨c0, c1, c2, c3, c4, c5, c6, c7, c8, cm⟩ := H4.cells
      clear H4
      go_wp2_with fail
      go_loopg [6] (n + 1) (fun gi v6 wi => ∃ k : Nat, gi = n + 1 - k ∧ k ≤ n ∧ v6 = .int .i64 ((s.yd + 1 + k : Nat) : Int) ∧ Hid (kd < 8 → k = 0) ∧ Hid (CopAt e (s.fieldsN e s.yd k) wi) ∧ Hid (Aside e.own w wi) ∧ Hid (wi.heap[bo]? = some (.cells #[.int .i64 kd, .int .i64 ag, .int .i64 mk, .int .i64 (n : Int)] 92)))
      case atStart => exact ⟨0, rfl, Nat.zero_le _, by go_num, fun _ => rfl, HH4, A4, HN4⟩
      case round =>
        obtain ⟨k, hgi, hkn, rfl, hraw, hHk, hAk, hNk⟩ := hrel
        have HGI := toHid hgi
        clear hgi
        obtain ⟨o0, o1, o2, o3, _⟩ := head_block hNk.out
        obtain ⟨y, hy⟩ : ∃ y, y = s.yd + 1 + k := ⟨_, rfl⟩
        rw [← hy]
        have HY := toHid hy
        have hy0 : (0 : Int) ≤ (y : Int) := by omega
        have kr := raw_any kd hk0
        obtain ⟨zJ, cJ⟩ : ∃ z, wr.cell? ⟨e.q, 5, none⟩ = some z := by obtain ⟨_, _, _, _, _, k5, _, k7, _⟩ := hHk.out.cells; exact ⟨_, k5⟩
        have fJ : wr.frozen? ⟨e.q, 5, none⟩ = false := by have h := hHk.out.hq; simp [World.frozen?, h]
        have hX : s.fieldsN e s.yd k = s.obj e s.yd → CopAt e (s.scanY e) (wr.setCell ⟨e.q, 5, none⟩ (.int .i64 (en : Int))) ∧ Aside e.own w (wr.setCell ⟨e.q, 5, none⟩ (.int .i64 (en : Int))) := fun h => by
          refine ⟨?_, hAk.out.setCell (Or.inl rfl) _⟩
          have h2 := hHk.out.setYd en
          rw [h] at h2
          unfold CS.scanY
          rw [← HXE.out, ← HN.out, ← HEN.out]
          exact h2
        have HX := toHid hX
        clear hX
        by_cases hke : k < n
        · have hye : (y : Int) < (en : Int) := by have := HEN.out; omega
          by_cases hrw : kd < 8
          · rw [decide_eq_true hrw] at kr
            clear hy
            go_wp2_with fail
            refine (kr _).mono ?_
            rintro ev w5 ⟨rfl, rfl⟩
            obtain ⟨h2, a2⟩ := HX.out (by rw [hraw.out hrw]; unfold CS.obj; rw [if_pos (by rw [← HXE.out, ← HKD.out]; exact hrw)]; rfl)
            have H2 := toHid h2
            have A2 := toHid a2
            clear h2 a2
            go_wp2_with fail
            go_roundg (μ (s.scanY e) + 1)
            case measure => have := HGK.out; have := HMU.out; omega
            case rel => exact ⟨_, rfl, HINV, H2, A2⟩
          · rw [decide_eq_false hrw] at kr
            clear hy
            go_wp2_with fail
            refine (kr _).mono ?_
            rintro ev w5 ⟨rfl, e5⟩
            rw [e5]
            clear e5 w5
            have hfo := HOB.out.fields (by rw [← HXE.out, ← HKD.out]; omega) k (by rw [← HXE.out, ← HN.out]; exact hke)
            rw [← HY.out] at hfo
            have kf := cfield_any a e (s.fieldsN e s.yd k) y wr hHk.out hfo.ok HF.out hfo.lt (fun w' h => HE.out w' (hAk.out.trans h)) hfo.can hfo.ok' hfo.cards
            clear hfo
            go_wp2_with fail
            refine kf.mono ?_
            clear kf
            rintro ev w6 ⟨rfl, h6, a6⟩
            have H6 : Hid (CopAt e (s.fieldsN e s.yd (k + 1)) w6) := by show CopAt e ((s.fieldsN e s.yd k).field e (s.yd + 1 + k)) w6; rw [← HY.out]; exact h6
            have A6 : Hid (Aside e.own w w6) := hAk.out.trans a6
            have N6 : Hid (w6.heap[bo]? = some (.cells #[.int .i64 kd, .int .i64 ag, .int .i64 mk, .int .i64 (n : Int)] 92)) := (a6.block bo (lt_of_heap hNk.out) HBO.out).trans hNk.out
            clear h6 a6
            have hy3 : y ≤ 300000 := by have := HY.out; omega
            go_wp2_with fail
            go_roundg (n + 1 - (k + 1))
            case measure => have := HGI.out; omega
            case rel => exact ⟨k + 1, rfl, by omega, by have := HY.out; go_num, fun h => by omega, H6, A6, N6⟩
        · have hye : ¬ (y : Int) < (en : Int) := by have := HEN.out; omega
          clear hy
          obtain ⟨h2, a2⟩ := HX.out (by
            unfold CS.obj
            rw [← HXE.out, ← HKD.out]
            by_cases hrw : kd < 8
            · rw [if_pos hrw, hraw.out hrw]; rfl
            · rw [if_neg hrw, ← HN.out, show k = n by omega])
          have H2 := toHid h2
          have A2 := toHid a2
          clear h2 a2
          go_wp2_with fail
          go_roundg (μ (s.scanY e) + 1)
          case measure => have := HGK.out; have := HMU.out; omega
          case rel => exact ⟨_, rfl, HINV, H2, A2⟩
    · have hlI : ¬ (s.yd : Int) < (s.yt : Int) := by omega
      go_wp2_with fail
      go_quiet (fail)
      go_wp2_with fail
      go_end0
      have hb := below_drewN (q := nq) (Below.refl wr.heap.size wr)
      exact ⟨rfl, s, hi.out, hlt, hH.out.below hb, hA.out.trans (Aside.of_below hb)⟩
/-- One object of this part is gone through. -/
def CS.scanG (e : CE) (s : CS) : CS := { s.obj e s.gd with gd := s.gd + 1 + szN (s.W.getD s.gd 0) }
set_option maxHeartbeats 4000000 in
set_option maxRecDepth 100000 in
theorem scanG_any (a : Nat → Addr) (e : CE) (s0 : CS) (w : World) (H : CopAt e s0 w) (F : Fits e.half e.old e.card e.nW e.nC e.used e.top e.oldTop) (E : ∀ w', Aside e.own w w' → WErr a w') (Inv : CS → Prop) (μ : CS → Nat) (h0 : Inv s0)
    (hI : ∀ s, Inv s → s.gd ≤ 300000 ∧ s.gt ≤ 300000 ∧ (s.gd < s.gt → ObjOK e s s.gd ∧ Inv (s.scanG e) ∧ μ (s.scanG e) < μ s)) :
    Calls Tryz.prog 102 #[.pointer (some ⟨e.q, 0, none⟩), .pointer (some ⟨e.q, 7, none⟩)] w fun ev w' => ev = .returned (.tuple #[]) ∧ ∃ s, Inv s ∧ ¬ s.gd < s.gt ∧ CopAt e s w' ∧ Aside e.own w w' := by
  have HI := toHid hI
  have HE := toHid E
  have HF := toHid F
  have H0 := toHid H
  have HI0 := toHid h0
  clear H E F hI h0
  go_enter Tryz.func102, Tryz.ntmps102
  go_wp2_with fail
  go_loopg [] (μ s0 + 1) (fun gk wr => ∃ s, gk = μ s + 1 ∧ Hid (Inv s) ∧ Hid (CopAt e s wr) ∧ Hid (Aside e.own w wr))
  case atStart => exact ⟨s0, rfl, HI0, H0, Aside.refl _ _⟩
  case round =>
    obtain ⟨s, hgk, hi, hH, hA⟩ := hrel
    have HGK := toHid hgk
    clear hgk
    obtain ⟨b1, b2, hst⟩ := HI.out s hi.out
    have HST := toHid hst
    obtain ⟨c0, c1, c2, c3, c4, c5, c6, c7, c8, cm⟩ := hH.out.cells
    clear hst
    by_cases hlt : s.gd < s.gt
    · have hlI : (s.gd : Int) < (s.gt : Int) := by omega
      obtain ⟨hob, hinv, hmu⟩ := HST.out hlt
      obtain ⟨x, hxe⟩ : ∃ x, x = s.W.getD s.gd 0 := ⟨_, rfl⟩
      have hfl : s.gd < s.W.length := by have := hob.fit; have := hob.ok.len; omega
      have hx : s.W[s.gd]? = some x := by rw [hxe, List.getD_eq_getElem?_getD, List.getElem?_eq_getElem hfl]; rfl
      obtain ⟨x0, x1⟩ := hob.ok.u64 x (List.mem_of_getElem? hx)
      have hhd := hob.head
      have hfit := hob.fit
      have hfew := hob.ok.few
      rw [← hxe] at hhd hfit
      obtain ⟨E1, E2, E3⟩ := of_decide_eq_true hhd
      have hsz : x / 65536 = (szN x : Int) := by unfold szN; omega
      obtain ⟨n, hn⟩ : ∃ n, n = szN x := ⟨_, rfl⟩
      obtain ⟨kd, hkd⟩ : ∃ kd, kd = x / 4 % 256 := ⟨_, rfl⟩
      have hk0 : 0 ≤ kd := by omega
      have kh := fun w1 (b1 : Below wr.heap.size wr w1) => chead_any e s s.gd x w1 (hH.out.below b1) hx (by omega) x0 x1 hhd
      unfold headV at kh
      rw [hsz, ← hn, ← hkd] at kh
      rw [← hn] at hfit
      have HKH := toHid kh
      have HOB := toHid hob
      have HINV := toHid hinv
      have HMU := toHid hmu
      have HXE := toHid hxe
      have HN := toHid hn
      have HKD := toHid hkd
      generalize x / 1024 % 16 = ag at *
      generalize x / 16384 % 2 = mk at *
      clear hob hinv hmu hhd E1 E2 E3 hsz hn hkd hx x0 x1 hfl kh hxe
      go_wp2_with fail
      go_quiet (fail)
      obtain ⟨w1, hw1⟩ : ∃ w1, w1 = wr.drewN nq := ⟨_, rfl⟩
      rw [← hw1]
      have b1 : Below wr.heap.size wr w1 := by rw [hw1]; exact below_drewN (Below.refl _ _)
      have H1 := hH.out.below b1
      have kh := HKH.out w1 b1
      have HB1 := toHid b1
      clear hw1 b1 c0 c1 c2 c3 c4 c5 c6 c7 c8 cm
      obtain ⟨c0, c1, c2, c3, c4, c5, c6, c7, c8, cm⟩ := H1.cells
      clear H1
      go_wp2_with fail
      refine kh.mono ?_
      clear kh
      rintro ev w2 ⟨rfl, b2⟩
      go_upto_region 2 with fail
      obtain ⟨w3, hw3⟩ : ∃ w3, w3 = w2.alloc (.cells #[.int .i64 kd, .int .i64 ag, .int .i64 mk, .int .i64 (n : Int)] 92) := ⟨_, rfl⟩
      obtain ⟨bo, hbo⟩ : ∃ bo, bo = w2.heap.size := ⟨_, rfl⟩
      have b13 : Below w1.heap.size w1 w3 := by rw [hw3]; exact b2.alloc b2.size _
      have b3 : Below wr.heap.size wr w3 := HB1.out.trans (b13.mono HB1.out.size)
      have n3 : w3.heap[bo]? = some (.cells #[.int .i64 kd, .int .i64 ag, .int .i64 mk, .int .i64 (n : Int)] 92) := by rw [hw3, hbo]; exact heap_alloc_new _ _
      have hbw : wr.heap.size ≤ bo := by rw [hbo]; exact Nat.le_trans HB1.out.size b2.size
      rw [← hw3, ← hbo]
      obtain ⟨o0, o1, o2, o3, _⟩ := head_block n3
      have H3 := hH.out.below b3
      clear c0 c1 c2 c3 c4 c5 c6 c7 c8 cm
      obtain ⟨c0, c1, c2, c3, c4, c5, c6, c7, c8, cm⟩ := H3.cells
      obtain ⟨en, hen⟩ : ∃ en, en = s.gd + 1 + n := ⟨_, rfl⟩
      have g1 : IntKind.i64.wrap ((s.gd : Int) + 1) = (s.gd : Int) + 1 := by rw [IntKind.wrap_i64]; omega
      have g2 : IntKind.i64.wrap ((s.gd : Int) + 1 + (n : Int)) = (en : Int) := by rw [IntKind.wrap_i64]; omega
      have HEN := toHid hen
      have HN3 := toHid n3
      have HB3 := toHid b3
      have HH3 := toHid H3
      have HBW := toHid hbw
      clear hw3 hbo b13 b3 n3 hbw H3 hen b2 HB1
      go_quiet (fail)
      obtain ⟨w4, hw4⟩ : ∃ w4, w4 = w3.drewN nq := ⟨_, rfl⟩
      rw [← hw4]
      have b34 : Below w3.heap.size w3 w4 := by rw [hw4]; exact below_drewN (Below.refl _ _)
      have H4 := HH3.out.below b34
      have n4 := (b34.block _ (lt_of_heap HN3.out)).trans HN3.out
      have A4 : Hid (Aside e.own w w4) := hA.out.trans (Aside.of_below (HB3.out.trans (b34.mono HB3.out.size)))
      have hbo : ¬ e.own bo := fun h => by
        have q1 := lt_of_heap hH.out.hq
        have q3 := hH.out.hW.lt
        have q4 := hH.out.hC.lt
        obtain ⟨_, _, _, hm, _⟩ := hH.out.hm
        have q5 := hm.lt
        have q6 := HBW.out
        rcases h with h | h | h | h <;> omega
      have HBO := toHid hbo
      have HH4 := toHid H4
      have HN4 := toHid n4
      clear c0 c1 c2 c3 c4 c5 c6 c7 c8 cm o0 o1 o2 o3 hw4 b34 n4 hbo HN3 HB3 HH3
      obtain ⟨c0, c1, c2, c3, c4, c5, c6, c7, c8, cm⟩ := H4.cells
      clear H4
      go_wp2_with fail
      go_loopg [6] (n + 1) (fun gi v6 wi => ∃ k : Nat, gi = n + 1 - k ∧ k ≤ n ∧ v6 = .int .i64 ((s.gd + 1 + k : Nat) : Int) ∧ Hid (kd < 8 → k = 0) ∧ Hid (CopAt e (s.fieldsN e s.gd k) wi) ∧ Hid (Aside e.own w wi) ∧ Hid (wi.heap[bo]? = some (.cells #[.int .i64 kd, .int .i64 ag, .int .i64 mk, .int .i64 (n : Int)] 92)))
      case atStart => exact ⟨0, rfl, Nat.zero_le _, by go_num, fun _ => rfl, HH4, A4, HN4⟩
      case round =>
        obtain ⟨k, hgi, hkn, rfl, hraw, hHk, hAk, hNk⟩ := hrel
        have HGI := toHid hgi
        clear hgi
        obtain ⟨o0, o1, o2, o3, _⟩ := head_block hNk.out
        obtain ⟨y, hy⟩ : ∃ y, y = s.gd + 1 + k := ⟨_, rfl⟩
        rw [← hy]
        have HY := toHid hy
        have hy0 : (0 : Int) ≤ (y : Int) := by omega
        have kr := raw_any kd hk0
        obtain ⟨zJ, cJ⟩ : ∃ z, wr.cell? ⟨e.q, 7, none⟩ = some z := by obtain ⟨_, _, _, _, _, k5, _, k7, _⟩ := hHk.out.cells; exact ⟨_, k7⟩
        have fJ : wr.frozen? ⟨e.q, 7, none⟩ = false := by have h := hHk.out.hq; simp [World.frozen?, h]
        have hX : s.fieldsN e s.gd k = s.obj e s.gd → CopAt e (s.scanG e) (wr.setCell ⟨e.q, 7, none⟩ (.int .i64 (en : Int))) ∧ Aside e.own w (wr.setCell ⟨e.q, 7, none⟩ (.int .i64 (en : Int))) := fun h => by
          refine ⟨?_, hAk.out.setCell (Or.inl rfl) _⟩
          have h2 := hHk.out.setGd en
          rw [h] at h2
          unfold CS.scanG
          rw [← HXE.out, ← HN.out, ← HEN.out]
          exact h2
        have HX := toHid hX
        clear hX
        by_cases hke : k < n
        · have hye : (y : Int) < (en : Int) := by have := HEN.out; omega
          by_cases hrw : kd < 8
          · rw [decide_eq_true hrw] at kr
            clear hy
            go_wp2_with fail
            refine (kr _).mono ?_
            rintro ev w5 ⟨rfl, rfl⟩
            obtain ⟨h2, a2⟩ := HX.out (by rw [hraw.out hrw]; unfold CS.obj; rw [if_pos (by rw [← HXE.out, ← HKD.out]; exact hrw)]; rfl)
            have H2 := toHid h2
            have A2 := toHid a2
            clear h2 a2
            go_wp2_with fail
            go_roundg (μ (s.scanG e) + 1)
            case measure => have := HGK.out; have := HMU.out; omega
            case rel => exact ⟨_, rfl, HINV, H2, A2⟩
          · rw [decide_eq_false hrw] at kr
            clear hy
            go_wp2_with fail
            refine (kr _).mono ?_
            rintro ev w5 ⟨rfl, e5⟩
            rw [e5]
            clear e5 w5
            have hfo := HOB.out.fields (by rw [← HXE.out, ← HKD.out]; omega) k (by rw [← HXE.out, ← HN.out]; exact hke)
            rw [← HY.out] at hfo
            have kf := cfield_any a e (s.fieldsN e s.gd k) y wr hHk.out hfo.ok HF.out hfo.lt (fun w' h => HE.out w' (hAk.out.trans h)) hfo.can hfo.ok' hfo.cards
            clear hfo
            go_wp2_with fail
            refine kf.mono ?_
            clear kf
            rintro ev w6 ⟨rfl, h6, a6⟩
            have H6 : Hid (CopAt e (s.fieldsN e s.gd (k + 1)) w6) := by show CopAt e ((s.fieldsN e s.gd k).field e (s.gd + 1 + k)) w6; rw [← HY.out]; exact h6
            have A6 : Hid (Aside e.own w w6) := hAk.out.trans a6
            have N6 : Hid (w6.heap[bo]? = some (.cells #[.int .i64 kd, .int .i64 ag, .int .i64 mk, .int .i64 (n : Int)] 92)) := (a6.block bo (lt_of_heap hNk.out) HBO.out).trans hNk.out
            clear h6 a6
            have hy3 : y ≤ 300000 := by have := HY.out; omega
            go_wp2_with fail
            go_roundg (n + 1 - (k + 1))
            case measure => have := HGI.out; omega
            case rel => exact ⟨k + 1, rfl, by omega, by have := HY.out; go_num, fun h => by omega, H6, A6, N6⟩
        · have hye : ¬ (y : Int) < (en : Int) := by have := HEN.out; omega
          clear hy
          obtain ⟨h2, a2⟩ := HX.out (by
            unfold CS.obj
            rw [← HXE.out, ← HKD.out]
            by_cases hrw : kd < 8
            · rw [if_pos hrw, hraw.out hrw]; rfl
            · rw [if_neg hrw, ← HN.out, show k = n by omega])
          have H2 := toHid h2
          have A2 := toHid a2
          clear h2 a2
          go_wp2_with fail
          go_roundg (μ (s.scanG e) + 1)
          case measure => have := HGK.out; have := HMU.out; omega
          case rel => exact ⟨_, rfl, HINV, H2, A2⟩
    · have hlI : ¬ (s.gd : Int) < (s.gt : Int) := by omega
      go_wp2_with fail
      go_quiet (fail)
      go_wp2_with fail
      go_end0
      have hb := below_drewN (q := nq) (Below.refl wr.heap.size wr)
      exact ⟨rfl, s, hi.out, hlt, hH.out.below hb, hA.out.trans (Aside.of_below hb)⟩
end Go.Proofs.YtnenggkgfhgcnaaGreatDoor

/- Package minor: all that was copied is gone through (scan), by a contract. -/
namespace Go.Proofs.YtnenggkgfhgcnaaGreatDoor
open Go.RowKit Go.Maps

set_option maxHeartbeats 4000000 in
set_option maxRecDepth 100000 in
theorem scan_any (a : Nat → Addr) (e : CE) (s0 : CS) (w : World) (H : CopAt e s0 w) (F : Fits e.half e.old e.card e.nW e.nC e.used e.top e.oldTop) (E : ∀ w', Aside e.own w w' → WErr a w') (Inv : CS → Prop) (μ : CS → Nat) (h0 : Inv s0)
    (hY : ∀ s, Inv s → s.yd ≤ 300000 ∧ s.yt ≤ 300000 ∧ (s.yd < s.yt → ObjOK e s s.yd ∧ Inv (s.scanY e) ∧ μ (s.scanY e) < μ s))
    (hG : ∀ s, Inv s → s.gd ≤ 300000 ∧ s.gt ≤ 300000 ∧ (s.gd < s.gt → ObjOK e s s.gd ∧ Inv (s.scanG e) ∧ μ (s.scanG e) < μ s)) :
    Calls Tryz.prog 71 #[.pointer (some ⟨e.q, 0, none⟩)] w fun ev w' => ev = .returned (.tuple #[]) ∧ ∃ s, Inv s ∧ ¬ s.yd < s.yt ∧ ¬ s.gd < s.gt ∧ CopAt e s w' ∧ Aside e.own w w' := by
  have kY : Hid (∀ s wx, Inv s → CopAt e s wx → Aside e.own w wx → Calls Tryz.prog 102 #[.pointer (some ⟨e.q, 0, none⟩), .pointer (some ⟨e.q, 5, none⟩)] wx fun ev w' => ev = .returned (.tuple #[]) ∧ ∃ s', (Inv s' ∧ (s' = s ∨ μ s' < μ s)) ∧ ¬ s'.yd < s'.yt ∧ CopAt e s' w' ∧ Aside e.own w w') := fun s wx hi hH hA => by
    refine (scanY_any a e s wx hH F (fun w' h => E w' (hA.trans h)) (fun s' => Inv s' ∧ (s' = s ∨ μ s' < μ s)) μ ⟨hi, Or.inl rfl⟩ (fun s' hs' => ?_)).mono ?_
    · obtain ⟨b1, b2, b3⟩ := hY s' hs'.1
      refine ⟨b1, b2, fun hlt => ?_⟩
      obtain ⟨c1, c2, c3⟩ := b3 hlt
      refine ⟨c1, ⟨c2, Or.inr ?_⟩, c3⟩
      rcases hs'.2 with h | h
      · rw [h] at c3 ⊢; exact c3
      · omega
    · rintro ev w' ⟨rfl, s', h1, h2, h3, h4⟩
      exact ⟨rfl, s', h1, h2, h3, hA.trans h4⟩
  have kG : Hid (∀ s wx, Inv s → CopAt e s wx → Aside e.own w wx → Calls Tryz.prog 102 #[.pointer (some ⟨e.q, 0, none⟩), .pointer (some ⟨e.q, 7, none⟩)] wx fun ev w' => ev = .returned (.tuple #[]) ∧ ∃ s', (Inv s' ∧ (s' = s ∨ μ s' < μ s)) ∧ ¬ s'.gd < s'.gt ∧ CopAt e s' w' ∧ Aside e.own w w') := fun s wx hi hH hA => by
    refine (scanG_any a e s wx hH F (fun w' h => E w' (hA.trans h)) (fun s' => Inv s' ∧ (s' = s ∨ μ s' < μ s)) μ ⟨hi, Or.inl rfl⟩ (fun s' hs' => ?_)).mono ?_
    · obtain ⟨b1, b2, b3⟩ := hG s' hs'.1
      refine ⟨b1, b2, fun hlt => ?_⟩
      obtain ⟨c1, c2, c3⟩ := b3 hlt
      refine ⟨c1, ⟨c2, Or.inr ?_⟩, c3⟩
      rcases hs'.2 with h | h
      · rw [h] at c3 ⊢; exact c3
      · omega
    · rintro ev w' ⟨rfl, s', h1, h2, h3, h4⟩
      exact ⟨rfl, s', h1, h2, h3, hA.trans h4⟩
  have HI0 := toHid h0
  have H0 := toHid H
  have HB : Hid (∀ s, Inv s → s.yd ≤ 300000 ∧ s.yt ≤ 300000 ∧ s.gd ≤ 300000 ∧ s.gt ≤ 300000) := fun s hs => ⟨(hY s hs).1, (hY s hs).2.1, (hG s hs).1, (hG s hs).2.1⟩
  clear H F E hY hG h0
  go_enter Tryz.func71, Tryz.ntmps71
  go_wp2_with fail
  go_loopg [] (μ s0 + 1) (fun gk wr => ∃ s, gk = μ s + 1 ∧ Hid (Inv s) ∧ Hid (CopAt e s wr) ∧ Hid (Aside e.own w wr))
  case atStart => exact ⟨s0, rfl, HI0, H0, Aside.refl _ _⟩
  case round =>
    obtain ⟨s, hgk, hi, hH, hA⟩ := hrel
    have HGK := toHid hgk
    clear hgk
    obtain ⟨b1, b2, b3, b4⟩ := HB.out s hi.out
    obtain ⟨c0, c1, c2, c3, c4, c5, c6, c7, c8, cm⟩ := hH.out.cells
    have hcase : (s.yd < s.yt ∨ (¬ s.yd < s.yt ∧ s.gd < s.gt)) ∨ (¬ s.yd < s.yt ∧ ¬ s.gd < s.gt) := by omega
    rcases hcase with hgo | ⟨hy, hg⟩
    · have HGO := toHid hgo
      have HRest : Hid (∀ wq, Below wr.heap.size wr wq → Calls Tryz.prog 102 #[.pointer (some ⟨e.q, 0, none⟩), .pointer (some ⟨e.q, 5, none⟩)] wq fun ev w' => ev = .returned (.tuple #[]) ∧ ∃ s', (Inv s' ∧ (s' = s ∨ μ s' < μ s)) ∧ ¬ s'.yd < s'.yt ∧ CopAt e s' w' ∧ Aside e.own w w') := fun wq hb => kY.out s wq hi.out (hH.out.below hb) (hA.out.trans (Aside.of_below hb))
      rcases hgo with hlt | ⟨hy, hlt⟩
      · have hlI : (s.yd : Int) < (s.yt : Int) := by omega
        clear hlt
        go_wp2_with fail
        go_quiet (fail)
        have k1 := HRest.out (wr.drewN nq) (below_drewN (Below.refl _ _))
        obtain ⟨w1, hw1⟩ : ∃ w1, w1 = wr.drewN nq := ⟨_, rfl⟩
        rw [← hw1] at k1 ⊢
        clear hw1 c0 c1 c2 c3 c4 c5 c6 c7 c8 cm
        go_wp2_with fail
        refine k1.mono ?_
        clear k1
        rintro ev w2 ⟨rfl, s1, ⟨hi1, hd1⟩, hny, hH1, hA1⟩
        have k2 := kG.out s1 w2 hi1 hH1 hA1
        have HD1 := toHid hd1
        have HNY := toHid hny
        clear hi1 hd1 hny hH1 hA1
        go_wp2_with fail
        refine k2.mono ?_
        clear k2
        rintro ev w3 ⟨rfl, s2, ⟨hi2, hd2⟩, hng, hH2, hA2⟩
        have HI2 := toHid hi2
        have HD2 := toHid hd2
        have HNG := toHid hng
        have HH2 := toHid hH2
        have HA2 := toHid hA2
        clear hi2 hd2 hng hH2 hA2
        go_wp2_with fail
        go_roundg (μ s2 + 1)
        case measure =>
          have g := HGK.out
          have d1 := HD1.out
          have d2 := HD2.out
          have o := HGO.out
          have n1 := HNY.out
          have n2 := HNG.out
          rcases d1 with rfl | d1
          · rcases d2 with rfl | d2
            · omega
            · omega
          · rcases d2 with rfl | d2 <;> omega
        case rel => exact ⟨s2, rfl, HI2, HH2, HA2⟩
      · have hyI : ¬ (s.yd : Int) < (s.yt : Int) := by omega
        have hyD : decide (s.yd < s.yt) = false := decide_eq_false (by omega)
        have hlI : (s.gd : Int) < (s.gt : Int) := by omega
        clear hlt hy
        go_wp2_with fail
        go_quiet (fail)
        have k1 := HRest.out (wr.drewN nq) (below_drewN (Below.refl _ _))
        obtain ⟨w1, hw1⟩ : ∃ w1, w1 = wr.drewN nq := ⟨_, rfl⟩
        rw [← hw1] at k1 ⊢
        clear hw1 c0 c1 c2 c3 c4 c5 c6 c7 c8 cm
        go_wp2_with fail
        refine k1.mono ?_
        clear k1
        rintro ev w2 ⟨rfl, s1, ⟨hi1, hd1⟩, hny, hH1, hA1⟩
        have k2 := kG.out s1 w2 hi1 hH1 hA1
        have HD1 := toHid hd1
        have HNY := toHid hny
        clear hi1 hd1 hny hH1 hA1
        go_wp2_with fail
        refine k2.mono ?_
        clear k2
        rintro ev w3 ⟨rfl, s2, ⟨hi2, hd2⟩, hng, hH2, hA2⟩
        have HI2 := toHid hi2
        have HD2 := toHid hd2
        have HNG := toHid hng
        have HH2 := toHid hH2
        have HA2 := toHid hA2
        clear hi2 hd2 hng hH2 hA2
        go_wp2_with fail
        go_roundg (μ s2 + 1)
        case measure =>
          have g := HGK.out
          have d1 := HD1.out
          have d2 := HD2.out
          have o := HGO.out
          have n1 := HNY.out
          have n2 := HNG.out
          rcases d1 with rfl | d1
          · rcases d2 with rfl | d2
            · omega
            · omega
          · rcases d2 with rfl | d2 <;> omega
        case rel => exact ⟨s2, rfl, HI2, HH2, HA2⟩
    · have hyI : ¬ (s.yd : Int) < (s.yt : Int) := by omega
      have hyD : decide (s.yd < s.yt) = false := decide_eq_false (by omega)
      have hgI : ¬ (s.gd : Int) < (s.gt : Int) := by omega
      have HHY := toHid hy
      have HHG := toHid hg
      clear hy hg
      go_wp2_with fail
      go_quiet (fail)
      go_wp2_with fail
      go_end0
      have hb := below_drewN (q := nq) (Below.refl wr.heap.size wr)
      exact ⟨rfl, s, hi.out, HHY.out, HHG.out, hH.out.below hb, hA.out.trans (Aside.of_below hb)⟩
end Go.Proofs.YtnenggkgfhgcnaaGreatDoor
