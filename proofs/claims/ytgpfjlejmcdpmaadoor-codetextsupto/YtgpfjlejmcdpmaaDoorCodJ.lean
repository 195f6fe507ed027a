/- Package code: wellFormed, by a walk. -/
import Derived.Test.YtgpfjlejmcdpmaaDoorCodI
namespace Go.Proofs.YtgpfjlejmcdpmaaDoor
open Go.RowKit

/-- A name that may stand in the n-th Func. -/
def OkName (n : Nat) (s : ByteArray) : Prop := ∃ (a t p : Int) (st : Bool), Named s a t p st ∧ (a = 0 ∨ a = 1) ∧ ¬ s.toList = [116, 97, 107, 101] ∧ ¬ s.toList = [99, 108, 111, 115, 117, 114, 101] ∧ (s.toList = [104, 97, 108, 116] → n = 0) ∧ (s.toList = [114, 101, 116, 117, 114, 110] → n ≠ 0)
/-- A Func in a row of them, without params, locals, cells and frees. -/
def FuncAt (w : World) (b o i : Nat) (v : Value) : Prop := w.cell? ⟨b, o + i * 6, none⟩ = some (.string ⟨#[]⟩) ∧ w.cell? ⟨b, o + i * 6 + 1, none⟩ = some (.int .i64 0) ∧ w.cell? ⟨b, o + i * 6 + 2, none⟩ = some (.int .i64 0) ∧ w.cell? ⟨b, o + i * 6 + 3, none⟩ = some (.int .i64 0) ∧ w.cell? ⟨b, o + i * 6 + 4, none⟩ = some (.int .i64 0) ∧ w.cell? ⟨b, o + i * 6 + 5, none⟩ = some v
set_option maxHeartbeats 8000000 in
set_option maxRecDepth 100000 in
theorem wellFormed_ok (bF oF nF cF n bo oo nO cO bm : Nat) (aI aS aN : Option Addr) (nI nS nN cI cS cN : Nat) (nm : Nat → ByteArray) (hn : n < nF) (hO3 : nO ≤ 200000) (hok : ∀ i, i < nO → OkName n (nm i)) (w : World) (hF : FuncAt w bF oF n (.slice (some ⟨bo, oo, none⟩) nO cO)) (hO : OpsAt w bo oo nO nm) (hbo : bo < w.heap.size) (hK : Known bm w) :
    Calls Tryd.prog 28 #[.agg #[.slice (some ⟨bF, oF, none⟩) nF cF, .slice aI nI cI, .slice aS nS cS, .slice aN nN cN], .int .i64 (n : Int), .map (some bm)] w fun ev w' => ev = .returned (.bool true) ∧ Below w.heap.size w w' := by
  obtain ⟨c0, c1, c2, c3, c4, c5⟩ := hF
  have hI : (n : Int) < (nF : Int) := by omega
  have hI0 : (0 : Int) ≤ (n : Int) := by omega
  have lF : bF < w.heap.size := lt_of_cell c0
  have nF1 : bF ≠ w.heap.size := by omega
  have HO := toHid hO
  have HK := toHid hK
  have HOK := toHid hok
  clear hO hK hok
  go_enter Tryd.func28, Tryd.ntmps28
  go_wp2_with fail
  have km := howMany_any (some ⟨bF, oF, none⟩) aI aS aN (some ⟨bo, oo, none⟩) nF nI nS nN nO cF cI cS cN cO ⟨#[]⟩ ((w.alloc (.cells #[.slice (some ⟨bF, oF, none⟩) nF cF, .slice aI nI cI, .slice aS nS cS, .slice aN nN cN] 32)).alloc (.cells #[.string ⟨#[]⟩, .int .i64 0, .int .i64 0, .int .i64 0, .int .i64 0, .slice (some ⟨bo, oo, none⟩) nO cO] 39))
  refine km.mono ?_
  rintro ev w1 ⟨rfl, hb1⟩
  obtain ⟨_, kk2, kk3⟩ := two_made w (.cells #[.slice (some ⟨bF, oF, none⟩) nF cF, .slice aI nI cI, .slice aS nS cS, .slice aN nN cN] 32) (.cells #[.string ⟨#[]⟩, .int .i64 0, .int .i64 0, .int .i64 0, .int .i64 0, .slice (some ⟨bo, oo, none⟩) nO cO] 39)
  have h7 := (hb1.block (w.heap.size + 1) (lt_of_heap kk2)).trans kk2
  have hbw1 := kk3.trans (hb1.mono kk3.size)
  obtain ⟨q7, hq7⟩ : ∃ q7, q7 = w.heap.size + 1 := ⟨_, rfl⟩
  rw [← hq7] at h7 ⊢
  have z5 : w1.cell? ⟨q7, 5, none⟩ = some (.slice (some ⟨bo, oo, none⟩) nO cO) := (cell_of_row _ _ 5 _ _ _ h7).trans rfl
  have l7 : q7 < w1.heap.size := lt_of_heap h7
  have n7 : q7 ≠ w1.heap.size := by omega
  have HB1 := toHid hbw1
  clear km kk2 kk3 h7 hbw1 hq7 hb1 c0 c1 c2 c3 c4 c5
  go_wp2_with fail
  obtain ⟨w2, hw2⟩ : ∃ w2, w2 = w1.alloc (.cells #[.int .i64 1, .int .i64 3, .int .i64 (nI : Int), .int .i64 (nS : Int), .int .i64 (nN : Int), .int .i64 0, .int .i64 0, .int .i64 (nF : Int), .int .i64 (nO : Int), .int .i64 1001] 84) := ⟨_, rfl⟩
  have h8 : w2.heap[w1.heap.size]? = some (.cells #[.int .i64 1, .int .i64 3, .int .i64 (nI : Int), .int .i64 (nS : Int), .int .i64 (nN : Int), .int .i64 0, .int .i64 0, .int .i64 (nF : Int), .int .i64 (nO : Int), .int .i64 1001] 84) := by rw [hw2]; exact heap_alloc_new w1 _
  have HB2 : Hid (Below w.heap.size w w2) := by rw [hw2]; exact HB1.out.alloc HB1.out.size _
  rw [← hw2]
  obtain ⟨q8, hq8⟩ : ∃ q8, q8 = w1.heap.size := ⟨_, rfl⟩
  rw [← hq8] at h8 ⊢
  have a0 : w2.cell? ⟨q8, 0, none⟩ = some (.int .i64 1) := (cell_of_row _ _ 0 _ _ _ h8).trans rfl
  have a1 : w2.cell? ⟨q8, 1, none⟩ = some (.int .i64 3) := (cell_of_row _ _ 1 _ _ _ h8).trans rfl
  have l8 : q8 < w2.heap.size := lt_of_heap h8
  have HA0 := toHid a0
  have HA1 := toHid a1
  clear hw2 h8 hq8 a0 a1 z5 l7 n7 HB1 lF nF1
  go_loopg [9, 25] (nO + 1) (fun gk v9 v25 wr => ∃ i : Nat, gk = nO + 1 - i ∧ i ≤ nO ∧ v9 = .int .i64 0 ∧ v25 = .int .i64 (i : Int) ∧ Below w2.heap.size w2 wr)
  case atStart => exact ⟨0, rfl, Nat.zero_le _, rfl, rfl, Below.refl _ _⟩
  case round =>
    obtain ⟨i, hgk, hi, rfl, rfl, hbr⟩ := hrel
    have HG := toHid hgk
    clear hgk
    by_cases hlt : i < nO
    · have hJ : (i : Int) < (nO : Int) := by omega
      have hJ0 : (0 : Int) ≤ (i : Int) := by omega
      have hbw := HB2.out.trans (hbr.mono HB2.out.size)
      obtain ⟨o0, o1⟩ := HO.out.below hbw hbo i hlt
      obtain ⟨a, t, p, st, hN, ha, hs1, hs2, hs3, hs4⟩ := HOK.out i hlt
      generalize nm i = s at *
      have hKr : Known bm (wr.alloc (.cells #[.string s, .int .i64 0] 41)) := (HK.out.same (hbw.block bm HK.out.lt)).below ((Below.refl _ _).alloc (Nat.le_refl _) _)
      have L1 := (hN.look hKr).2
      have d0 := (hbr.cell (p := ⟨q8, 0, none⟩) l8).trans HA0.out
      have d1 := (hbr.cell (p := ⟨q8, 1, none⟩) l8).trans HA1.out
      have m8 : q8 < wr.heap.size := Nat.lt_of_lt_of_le l8 hbr.size
      have m8' : q8 ≠ wr.heap.size := by omega
      have m8'' : q8 ≠ wr.heap.size + 1 := by omega
      have e1 : (s.toList == [116, 97, 107, 101]) = false := by rw [beq_eq_false_iff_ne]; exact hs1
      have e2 : (s.toList == [99, 108, 111, 115, 117, 114, 101]) = false := by rw [beq_eq_false_iff_ne]; exact hs2
      have hb2 : Below w2.heap.size w2 ((wr.alloc (.cells #[.string s, .int .i64 0] 41)).alloc (.cells #[.int .i64 a, .int .i64 t, .int .i64 p, .int .i64 0, .int .i64 0, .bool st] 62)) := (hbr.alloc hbr.size _).alloc (by have := hbr.size; simp; omega) _
      have HBE := toHid hb2
      clear hN hKr hbw hb2
      by_cases hH : s.toList = [104, 97, 108, 116]
      · have hn0 := hs3 hH
        have e3 : (s.toList == [104, 97, 108, 116]) = true := by rw [beq_iff_eq]; exact hH
        have e4 : ((n : Int) == 0) = true := by rw [beq_iff_eq]; omega
        clear hs3 hs4
        rcases ha with rfl | rfl
        · go_wp2_with fail
          obtain ⟨k1, k2, _⟩ := two_made wr (.cells #[.string s, .int .i64 0] 41) (.cells #[.int .i64 0, .int .i64 t, .int .i64 p, .int .i64 0, .int .i64 0, .bool st] 62)
          obtain ⟨w3, hw3⟩ : ∃ w3, w3 = (wr.alloc (.cells #[.string s, .int .i64 0] 41)).alloc (.cells #[.int .i64 0, .int .i64 t, .int .i64 p, .int .i64 0, .int .i64 0, .bool st] 62) := ⟨_, rfl⟩
          rw [← hw3] at k1 k2 HBE ⊢
          have hbq := HBE.out
          have d0 := (hbq.cell (p := ⟨q8, 0, none⟩) l8).trans HA0.out
          have d1 := (hbq.cell (p := ⟨q8, 1, none⟩) l8).trans HA1.out
          obtain ⟨p0, p1, _⟩ := two_block k1
          obtain ⟨s0, _, _, _, _, _⟩ := shape_block k2
          clear hw3 k1 k2 hbq L1 o0 o1
          go_quiet (fail)
          go_wp2_with fail
          go_roundg (nO + 1 - (i + 1))
          case measure => have := HG.out; omega
          case rel => exact ⟨i + 1, rfl, by omega, rfl, by go_num, below_drewN HBE.out⟩
        · go_wp2_with fail
          obtain ⟨k1, k2, _⟩ := two_made wr (.cells #[.string s, .int .i64 0] 41) (.cells #[.int .i64 1, .int .i64 t, .int .i64 p, .int .i64 0, .int .i64 0, .bool st] 62)
          obtain ⟨w3, hw3⟩ : ∃ w3, w3 = (wr.alloc (.cells #[.string s, .int .i64 0] 41)).alloc (.cells #[.int .i64 1, .int .i64 t, .int .i64 p, .int .i64 0, .int .i64 0, .bool st] 62) := ⟨_, rfl⟩
          rw [← hw3] at k1 k2 HBE ⊢
          have hbq := HBE.out
          have d0 := (hbq.cell (p := ⟨q8, 0, none⟩) l8).trans HA0.out
          have d1 := (hbq.cell (p := ⟨q8, 1, none⟩) l8).trans HA1.out
          obtain ⟨p0, p1, _⟩ := two_block k1
          obtain ⟨s0, _, _, _, _, _⟩ := shape_block k2
          clear hw3 k1 k2 hbq L1 o0 o1
          go_quiet (fail)
          go_wp2_with fail
          go_roundg (nO + 1 - (i + 1))
          case measure => have := HG.out; omega
          case rel => exact ⟨i + 1, rfl, by omega, rfl, by go_num, below_drewN HBE.out⟩
      · have e3 : (s.toList == [104, 97, 108, 116]) = false := by rw [beq_eq_false_iff_ne]; exact hH
        by_cases hR : s.toList = [114, 101, 116, 117, 114, 110]
        · have hn0 := hs4 hR
          have e4 : (s.toList == [114, 101, 116, 117, 114, 110]) = true := by rw [beq_iff_eq]; exact hR
          have e5 : ((n : Int) != 0) = true := by rw [bne_iff_ne]; omega
          clear hs3 hs4
          rcases ha with rfl | rfl
          · go_wp2_with fail
            obtain ⟨k1, k2, _⟩ := two_made wr (.cells #[.string s, .int .i64 0] 41) (.cells #[.int .i64 0, .int .i64 t, .int .i64 p, .int .i64 0, .int .i64 0, .bool st] 62)
            obtain ⟨w3, hw3⟩ : ∃ w3, w3 = (wr.alloc (.cells #[.string s, .int .i64 0] 41)).alloc (.cells #[.int .i64 0, .int .i64 t, .int .i64 p, .int .i64 0, .int .i64 0, .bool st] 62) := ⟨_, rfl⟩
            rw [← hw3] at k1 k2 HBE ⊢
            have hbq := HBE.out
            have d0 := (hbq.cell (p := ⟨q8, 0, none⟩) l8).trans HA0.out
            have d1 := (hbq.cell (p := ⟨q8, 1, none⟩) l8).trans HA1.out
            obtain ⟨p0, p1, _⟩ := two_block k1
            obtain ⟨s0, _, _, _, _, _⟩ := shape_block k2
            clear hw3 k1 k2 hbq L1 o0 o1
            go_quiet (fail)
            go_wp2_with fail
            go_roundg (nO + 1 - (i + 1))
            case measure => have := HG.out; omega
            case rel => exact ⟨i + 1, rfl, by omega, rfl, by go_num, below_drewN HBE.out⟩
          · go_wp2_with fail
            obtain ⟨k1, k2, _⟩ := two_made wr (.cells #[.string s, .int .i64 0] 41) (.cells #[.int .i64 1, .int .i64 t, .int .i64 p, .int .i64 0, .int .i64 0, .bool st] 62)
            obtain ⟨w3, hw3⟩ : ∃ w3, w3 = (wr.alloc (.cells #[.string s, .int .i64 0] 41)).alloc (.cells #[.int .i64 1, .int .i64 t, .int .i64 p, .int .i64 0, .int .i64 0, .bool st] 62) := ⟨_, rfl⟩
            rw [← hw3] at k1 k2 HBE ⊢
            have hbq := HBE.out
            have d0 := (hbq.cell (p := ⟨q8, 0, none⟩) l8).trans HA0.out
            have d1 := (hbq.cell (p := ⟨q8, 1, none⟩) l8).trans HA1.out
            obtain ⟨p0, p1, _⟩ := two_block k1
            obtain ⟨s0, _, _, _, _, _⟩ := shape_block k2
            clear hw3 k1 k2 hbq L1 o0 o1
            go_quiet (fail)
            go_wp2_with fail
            go_roundg (nO + 1 - (i + 1))
            case measure => have := HG.out; omega
            case rel => exact ⟨i + 1, rfl, by omega, rfl, by go_num, below_drewN HBE.out⟩
        · have e4 : (s.toList == [114, 101, 116, 117, 114, 110]) = false := by rw [beq_eq_false_iff_ne]; exact hR
          clear hs3 hs4
          rcases ha with rfl | rfl
          · go_wp2_with fail
            obtain ⟨k1, k2, _⟩ := two_made wr (.cells #[.string s, .int .i64 0] 41) (.cells #[.int .i64 0, .int .i64 t, .int .i64 p, .int .i64 0, .int .i64 0, .bool st] 62)
            obtain ⟨w3, hw3⟩ : ∃ w3, w3 = (wr.alloc (.cells #[.string s, .int .i64 0] 41)).alloc (.cells #[.int .i64 0, .int .i64 t, .int .i64 p, .int .i64 0, .int .i64 0, .bool st] 62) := ⟨_, rfl⟩
            rw [← hw3] at k1 k2 HBE ⊢
            have hbq := HBE.out
            have d0 := (hbq.cell (p := ⟨q8, 0, none⟩) l8).trans HA0.out
            have d1 := (hbq.cell (p := ⟨q8, 1, none⟩) l8).trans HA1.out
            obtain ⟨p0, p1, _⟩ := two_block k1
            obtain ⟨s0, _, _, _, _, _⟩ := shape_block k2
            clear hw3 k1 k2 hbq L1 o0 o1
            go_quiet (fail)
            go_wp2_with fail
            go_roundg (nO + 1 - (i + 1))
            case measure => have := HG.out; omega
            case rel => exact ⟨i + 1, rfl, by omega, rfl, by go_num, below_drewN HBE.out⟩
          · go_wp2_with fail
            obtain ⟨k1, k2, _⟩ := two_made wr (.cells #[.string s, .int .i64 0] 41) (.cells #[.int .i64 1, .int .i64 t, .int .i64 p, .int .i64 0, .int .i64 0, .bool st] 62)
            obtain ⟨w3, hw3⟩ : ∃ w3, w3 = (wr.alloc (.cells #[.string s, .int .i64 0] 41)).alloc (.cells #[.int .i64 1, .int .i64 t, .int .i64 p, .int .i64 0, .int .i64 0, .bool st] 62) := ⟨_, rfl⟩
            rw [← hw3] at k1 k2 HBE ⊢
            have hbq := HBE.out
            have d0 := (hbq.cell (p := ⟨q8, 0, none⟩) l8).trans HA0.out
            have d1 := (hbq.cell (p := ⟨q8, 1, none⟩) l8).trans HA1.out
            obtain ⟨p0, p1, _⟩ := two_block k1
            obtain ⟨s0, _, _, _, _, _⟩ := shape_block k2
            clear hw3 k1 k2 hbq L1 o0 o1
            go_quiet (fail)
            go_wp2_with fail
            go_roundg (nO + 1 - (i + 1))
            case measure => have := HG.out; omega
            case rel => exact ⟨i + 1, rfl, by omega, rfl, by go_num, below_drewN HBE.out⟩
    · obtain rfl : i = nO := by omega
      have HBE := toHid (HB2.out.trans (hbr.mono HB2.out.size))
      go_wp2_with fail
      go_ret
      exact ⟨rfl, HBE.out⟩
end Go.Proofs.YtgpfjlejmcdpmaaDoor
