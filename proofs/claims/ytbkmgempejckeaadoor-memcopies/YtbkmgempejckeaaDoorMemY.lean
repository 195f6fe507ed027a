/- The law MemCopies by a walk. -/
import Derived.Test.YtbkmgempejckeaaDoorMemX
import Derived.Test.YtbkmgempejckeaaDoorMemV
namespace Go.Proofs.YtbkmgempejckeaaDoor
open Go.RowKit

/-- A memory of one's own, of which words and cards are known to be there. -/
structure YW (w0 : World) (bx : Nat) (vW vC : Value) (nW nC : Nat) (w : World) : Prop where
  below : Below w0.heap.size w0 w
  lo : w0.heap.size ≤ bx
  ob : ∃ h ol c u t ot vR vK vI, OB 57 bx h ol c vW u t ot vR vK vI vC w
  wr : ∃ xs, w.ownsRow (bx + 1) 40 1 vW nW xs
  cr : ∃ xs, w.ownsRow (bx + 1) 4 1 vC nC xs
  wc : ∀ g, vW.ownBlock = some g → vC.ownBlock ≠ some g
theorem YW.setW {w0 : World} {bx g cap j : Nat} {vC u : Value} {nW nC : Nat} {w : World} (Y : YW w0 bx (.slice (some ⟨g, 0, none⟩) nW cap) vC nW nC w) : YW w0 bx (.slice (some ⟨g, 0, none⟩) nW cap) vC nW nC (w.setCell ⟨g, j, none⟩ u) := by
  obtain ⟨h1, h2, ⟨h, ol, c, u', t, ot, vR, vK, vI, h3⟩, ⟨xW, h4⟩, ⟨xC, h5⟩, h8⟩ := Y
  have hg := own_lt2 h4 g rfl
  exact ⟨h1.setCell (show w0.heap.size ≤ g by omega) _, h2, ⟨h, ol, c, u', t, ot, vR, vK, vI, (heap_set _ _ _ _ _ (by omega)).trans h3⟩, own_setRow h4, ⟨xC, ownsRow_far' h5 (fun k hk => heap_set _ _ _ _ _ (fun e => h8 g rfl (by rw [hk, e])))⟩, h8⟩
theorem YW.setC {w0 : World} {bx g cap j : Nat} {vW u : Value} {nW nC : Nat} {w : World} (Y : YW w0 bx vW (.slice (some ⟨g, 0, none⟩) nC cap) nW nC w) : YW w0 bx vW (.slice (some ⟨g, 0, none⟩) nC cap) nW nC (w.setCell ⟨g, j, none⟩ u) := by
  obtain ⟨h1, h2, ⟨h, ol, c, u', t, ot, vR, vK, vI, h3⟩, ⟨xW, h4⟩, ⟨xC, h5⟩, h8⟩ := Y
  have hg := own_lt2 h5 g rfl
  exact ⟨h1.setCell (show w0.heap.size ≤ g by omega) _, h2, ⟨h, ol, c, u', t, ot, vR, vK, vI, (heap_set _ _ _ _ _ (by omega)).trans h3⟩, ⟨xW, ownsRow_far' h4 (fun k hk => heap_set _ _ _ _ _ (fun e => h8 k hk (by rw [e]; rfl)))⟩, own_setRow h5, h8⟩
theorem ys_append {w0 : World} {bx : Nat} {vW vR vK vI vC v : Value} {nW nC : Nat} {w wb w2 : World} (Y : YS w0 bx vW vR vK vI vC nW nC w) (hwb : Below w.heap.size w wb) (hg : wb.grownBy w2 vR.ownBlock) :
    (∃ h ol c u t ot, OB 57 bx h ol c vW u t ot vR vK vI vC w2) ∧ YW w0 bx vW vC nW nC (w2.setCell ⟨bx, 7, none⟩ v) := by
  obtain ⟨h1, h2, ⟨h, ol, c, u, t, ot, h3⟩, ⟨xW, h4⟩, ⟨xC, h5⟩, ⟨n, xR, h6, h7⟩, h8, h9, h10⟩ := Y
  have hz := hwb.size
  have f : ∀ k, k < w.heap.size → vR.ownBlock ≠ some k → w2.heap[k]? = w.heap[k]? := fun k hk hne => (hg.block k (by omega) (fun e => hne e.symm)).trans (hwb.block k hk)
  have hob : w2.heap[bx]? = w.heap[bx]? := f bx (lt_of_heap h3) (fun e => by have := (own_lt2 h7 bx e).1; omega)
  have h3' : OB 57 bx h ol c vW u t ot vR vK vI vC w2 := hob.trans h3
  have hbw : Below w0.heap.size w0 w2 := ⟨hg.os.trans (hwb.os.trans h1.os), hg.tape.trans (hwb.tape.trans h1.tape), hg.output.trans (hwb.output.trans h1.output), by have := hg.size; have := h1.size; omega, fun k hk => (f k (by have := h1.size; omega) (fun e => by have := (own_lt2 h7 k e).1; omega)).trans (h1.block k hk)⟩
  refine ⟨⟨h, ol, c, u, t, ot, h3'⟩, hbw.setCell h2 _, h2, ⟨h, ol, c, u, t, ot, v, vK, vI, (heap_set_same h3').trans rfl⟩, ⟨xW, ownsRow_far' h4 (fun k hk => (heap_set _ _ _ _ _ (by have := (own_lt2 h4 k hk).1; omega)).trans (f k (own_lt2 h4 k hk).2 (h9 k hk)))⟩, ⟨xC, ownsRow_far' h5 (fun k hk => (heap_set _ _ _ _ _ (by have := (own_lt2 h5 k hk).1; omega)).trans (f k (own_lt2 h5 k hk).2 (h10 k hk)))⟩, h8⟩
theorem near_nil (w : World) : Calls Tryd.prog 14 #[.pointer none] w fun ev w' => ev = .returned (.bool true) ∧ w' = w := by
  go_enter Tryd.func14, Tryd.ntmps14
  go_wp2
  go_ret
  exact ⟨rfl, rfl⟩
theorem memCopies_nil (kd : Int) (w : World) : Calls Tryd.prog 6 #[.pointer none, .int .i64 kd] w fun ev w' => ev = .returned (.bool true) ∧ Below w.heap.size w w' := by
  go_enter Tryd.func6, Tryd.ntmps6
  go_wp2_with fail
  refine (fresh_any w).mono ?_
  rintro ev w1 ⟨rfl, hb⟩
  go_wp2_with fail
  refine (near_nil w1).mono ?_
  rintro ev w2 ⟨rfl, hq⟩
  rw [hq]
  clear hq w2
  go_wp2_with fail
  go_ret
  exact ⟨rfl, hb⟩
theorem memCopies_far (p o : Nat) (m : MD) (kd : Int) (w : World) (h : RepM p o m w) (hn : ¬ (m.W.length ≤ 1000 ∧ m.R.length ≤ 100 ∧ m.K.length ≤ 100 ∧ m.I.length ≤ 100 ∧ m.C.length ≤ 1000)) : Calls Tryd.prog 6 #[.pointer (some ⟨p, o, none⟩), .int .i64 kd] w fun ev w' => ev = .returned (.bool true) ∧ Below w.heap.size w w' := by
  go_enter Tryd.func6, Tryd.ntmps6
  go_wp2_with fail
  refine (fresh_any w).mono ?_
  rintro ev w1 ⟨rfl, hb⟩
  go_wp2_with fail
  refine (near_no p o m w1 (h.below hb) hn).mono ?_
  rintro ev w2 ⟨rfl, hq⟩
  rw [hq]
  clear hq w2
  go_wp2_with fail
  go_ret
  exact ⟨rfl, hb⟩
set_option maxHeartbeats 8000000 in
set_option maxRecDepth 100000 in
theorem memCopies_near (a : Nat → Addr) (p o : Nat) (m : MD) (kd : Int) (w : World) (E : MErr a w) (h : RepM p o m w) (h64 : MD64 m) (n1 : m.W.length ≤ 1000) (n2 : m.R.length ≤ 100) (n3 : m.K.length ≤ 100) (n4 : m.I.length ≤ 100) (n5 : m.C.length ≤ 1000) : Calls Tryd.prog 6 #[.pointer (some ⟨p, o, none⟩), .int .i64 kd] w fun ev w' => ev = .returned (.bool true) ∧ Below w.heap.size w w' := by
  have HE := toHid E
  have HR := toHid h
  have H64 := toHid h64
  clear E h h64
  go_enter Tryd.func6, Tryd.ntmps6
  go_wp2_with fail
  refine (fresh_any w).mono ?_
  rintro ev w1 ⟨rfl, hb1⟩
  go_wp2_with fail
  refine (near_yes p o m w1 (HR.out.below hb1) n1 n2 n3 n4 n5).mono ?_
  rintro ev w2 ⟨rfl, hq⟩
  rw [hq]
  clear hq w2
  go_wp2_with fail
  refine (memOf_any p o m w1 (HR.out.below hb1) (by omega) (by omega) (by omega) (by omega) (by omega)).mono ?_
  rintro ev w2 ⟨bx, rfl, _, X2, hb2⟩
  have hb3 := hb1.trans (hb2.mono hb1.size)
  clear hb1 hb2
  go_wp2_with fail
  refine (copy_any bx m w2 X2 (by omega) (by omega) (by omega) (by omega) (by omega)).mono ?_
  rintro ev w3 ⟨a3, a7, a8, a9, a10, k3, k7, k8, k9, k10, rfl, hS⟩
  have Y3 := hS.ys (by omega)
  have P3 := hS.repP
  have M3 := (OB.mem hS.2.2.1).1
  have HX := toHid X2
  have HBx := toHid hb3
  clear X2 hb3 hS
  go_wp2_with fail
  refine (memBack_any w2.heap.size m w3 P3.rep (by omega) (by omega) (by omega) (by omega) (by omega)).mono ?_
  rintro ev w4 ⟨bz, rfl, _, Z4, hb4⟩
  have Y4 := Y3.keep hb4
  have P4 := P3.below hb4
  have M4 := M3.below hb4 (lt_of_cell M3.c0)
  clear Y3 P3 M3 hb4
  go_wp2_with fail
  refine (sameMemory_eq bz 0 p o m w4 Z4 (HR.out.below (HBx.out.trans (Y4.below.mono HBx.out.size))) (by omega) (by omega) (by omega) (by omega) (by omega)).mono ?_
  rintro ev w5 ⟨rfl, hb5⟩
  have Y5 := Y4.keep hb5
  have P5 := P4.below hb5
  have M5 := M4.below hb5 (lt_of_cell M4.c0)
  clear Y4 P4 M4 hb5 Z4
  go_wp2_with fail
  refine (alloc_safe a w2 w5 w2.heap.size m kd _ _ _ _ _ H64.out (by omega) (by omega) (by omega) (HE.out.below (HBx.out.trans (Y5.below.mono HBx.out.size))) P5 Y5 M5).mono ?_
  rintro ev w6 ⟨⟨r, e, rfl⟩, Y6⟩
  clear Y5 P5 M5
  have HY6 := toHid Y6
  obtain ⟨_, _, _, _, _, _, hob⟩ := Y6.ob
  obtain ⟨⟨c0, c1, c2, c3, c4, c5, c6, c7, c8, c9, c10⟩, cf⟩ := OB.mem hob
  have cf7 := cf 7
  have lob := lt_of_heap hob
  obtain ⟨nr, xR, hnr, hoR⟩ := Y6.rr
  obtain ⟨_, _, er⟩ := own_slice hoR
  have er2 : m.R.length = nr := by cases er; rfl
  subst er2
  have HoR := toHid hoR
  have hz6 := Y6.below.size
  obtain ⟨i0, hi0, hz0, hz1, hz2⟩ := infoU64
  clear Y6 hob hoR er cf c0 c1 c2 c4 c5 c6 c8 c9 c10
  go_wp2_with (at_builtin; refine wpList_append_lies _ rfl _ _ _ rfl (w2.heap.size + 1) 40 i0 (.int .u64 0) 1 8 Tryd.underlying32 hi0 hz0 hz1 hz2 rfl (by decide) (.slice a7 m.R.length k7) m.R.length xR rfl (HoR.out.alloc _) ⟨w6.heap.size, 0, none⟩ 1 1 [.int .u64 0] rfl rfl (World.news_of_block (cs := #[.int .u64 0]) (t := 40) (heap_alloc_new _ _)) (fun v hv => by simp at hv; rw [hv]; rfl) (by decide) (by unfold maxLen; omega) (by omega) (by simp; omega) _ rfl ?_; intro g' cap' w7 hown7 hgrow7 hat7 hlt7; obtain ⟨⟨_, _, _, _, _, _, hob7⟩, hYW⟩ := ys_append (v := .slice (some ⟨g', 0, none⟩) (m.R.length + 1) cap') HY6.out ((Below.refl _ _).alloc (Nat.le_refl _) _) hgrow7; obtain ⟨⟨d0, d1, d2, d3, d4, d5, d6, d7, d8, d9, d10⟩, df⟩ := OB.mem hob7; have df7 := df 7; have HYW := toHid hYW; clear hown7 hgrow7 hat7 hlt7 hob7 df hYW)
  clear d0 d1 d2 d3 d4 d5 d6 d7 d8 d9 d10 df7 c3 c7 cf7 HY6 HoR
  go_loopg [8] (m.W.length + 1) (fun gk v wr => ∃ k : Nat, gk = m.W.length + 1 - k ∧ k ≤ m.W.length ∧ v = .int .i64 (k : Int) ∧ Hid (YW w2 w2.heap.size (.slice a3 m.W.length k3) (.slice a10 m.C.length k10) m.W.length m.C.length wr))
  case atStart => exact ⟨0, rfl, Nat.zero_le _, rfl, HYW⟩
  case round =>
    obtain ⟨k, hgk, hk, hv, hY⟩ := hrel
    subst hv
    have HG := toHid hgk
    clear hgk
    obtain ⟨_, _, _, _, _, _, _, _, _, hob⟩ := hY.out.ob
    obtain ⟨⟨e0, e1, e2, e3, e4, e5, e6, e7, e8, e9, e10⟩, _⟩ := OB.mem hob
    clear hob e0 e1 e2 e4 e5 e6 e7 e8 e9
    by_cases hlt : k < m.W.length
    · have hI : (k : Int) < (m.W.length : Int) := by omega
      have hI0 : (0 : Int) ≤ (k : Int) := by omega
      obtain ⟨xs, hown⟩ := hY.out.wr
      obtain ⟨_, h0⟩ | ⟨g, cap, cur, eg, _, hg, hcp, _, hcs, _⟩ := hown.2
      · exfalso; omega
      cases eg
      obtain ⟨cv, hcv⟩ : ∃ cv, cur[k]? = some cv := ⟨_, Array.getElem?_eq_getElem (by omega)⟩
      have v0 := (cell_of_row _ _ k _ _ _ hg).trans hcv
      have vf : wr.frozen? ⟨g, k, none⟩ = false := by simp [World.frozen?, hg]
      clear hg hcv hown
      go_wp2_with fail
      go_roundg (m.W.length + 1 - (k + 1))
      case measure => have := HG.out; omega
      case rel => exact ⟨k + 1, rfl, by omega, by go_num, hY.out.setW⟩
    · obtain rfl : k = m.W.length := by omega
      go_wp2_with fail
      clear e3 e10 HG HYW
      go_loopg [9] (m.C.length + 1) (fun gk v wr => ∃ k : Nat, gk = m.C.length + 1 - k ∧ k ≤ m.C.length ∧ v = .int .i64 (k : Int) ∧ Hid (YW w2 w2.heap.size (.slice a3 m.W.length k3) (.slice a10 m.C.length k10) m.W.length m.C.length wr))
      case atStart => exact ⟨0, rfl, Nat.zero_le _, rfl, hY⟩
      case round =>
        obtain ⟨k, hgk, hk, hv, hY⟩ := hrel
        subst hv
        have HG := toHid hgk
        clear hgk
        obtain ⟨_, _, _, _, _, _, _, _, _, hob⟩ := hY.out.ob
        obtain ⟨⟨e0, e1, e2, e3, e4, e5, e6, e7, e8, e9, e10⟩, _⟩ := OB.mem hob
        clear hob e0 e1 e2 e4 e5 e6 e7 e8 e9
        by_cases hlt : k < m.C.length
        · have hI : (k : Int) < (m.C.length : Int) := by omega
          have hI0 : (0 : Int) ≤ (k : Int) := by omega
          obtain ⟨xs, hown⟩ := hY.out.cr
          obtain ⟨_, h0⟩ | ⟨g, cap, cur, eg, _, hg, hcp, _, hcs, _⟩ := hown.2
          · exfalso; omega
          cases eg
          obtain ⟨cv, hcv⟩ : ∃ cv, cur[k]? = some cv := ⟨_, Array.getElem?_eq_getElem (by omega)⟩
          have v0 := (cell_of_row _ _ k _ _ _ hg).trans hcv
          have vf : wr.frozen? ⟨g, k, none⟩ = false := by simp [World.frozen?, hg]
          clear hg hcv hown
          go_wp2_with fail
          go_roundg (m.C.length + 1 - (k + 1))
          case measure => have := HG.out; omega
          case rel => exact ⟨k + 1, rfl, by omega, by go_num, hY.out.setC⟩
        · obtain rfl : k = m.C.length := by omega
          go_wp2_with fail
          have hY2 := hY.out
          refine (memBack_any bx m wr (HX.out.below hY2.below) (by omega) (by omega) (by omega) (by omega) (by omega)).mono ?_
          rintro ev w8 ⟨bz2, rfl, _, Z8, hb8⟩
          have hb9 : Below w.heap.size w w8 := HBx.out.trans ((hY2.below.trans (hb8.mono hY2.below.size)).mono HBx.out.size)
          go_wp2_with fail
          refine (sameMemory_eq bz2 0 p o m w8 Z8 (HR.out.below hb9) (by omega) (by omega) (by omega) (by omega) (by omega)).mono ?_
          rintro ev w9 ⟨rfl, hb10⟩
          go_wp2_with fail
          go_ret
          exact ⟨rfl, hb9.trans (hb10.mono hb9.size)⟩
theorem memCopies_any (a : Nat → Addr) (p o : Nat) (m : MD) (kd : Int) (w : World) (E : MErr a w) (h : RepM p o m w) (h64 : MD64 m) : Calls Tryd.prog 6 #[.pointer (some ⟨p, o, none⟩), .int .i64 kd] w fun ev w' => ev = .returned (.bool true) ∧ Below w.heap.size w w' := by
  by_cases hn : m.W.length ≤ 1000 ∧ m.R.length ≤ 100 ∧ m.K.length ≤ 100 ∧ m.I.length ≤ 100 ∧ m.C.length ≤ 1000
  · exact memCopies_near a p o m kd w E h h64 hn.1 hn.2.1 hn.2.2.1 hn.2.2.2.1 hn.2.2.2.2
  · exact memCopies_far p o m kd w h hn
end Go.Proofs.YtbkmgempejckeaaDoor
