/- Package mem: Check of a memory with no objects, by contracts (on). -/
import Derived.Test.YtopcpeemibmgbaaDoorMemB
namespace Go.Proofs.YtopcpeemibmgbaaDoor
open Go.RowKit Go.Maps

theorem eachYoung_none (p b nW cW : Nat) (half old card oldTop : Int) (r k i c f : Value) (h0 : 0 ≤ half) (h1 : half ≤ 65536) (w : World)
    (M : MemAt p half old card (.slice (some ⟨b, 0, none⟩) nW cW) 0 0 oldTop r k i c w) :
    Calls Tryd.prog 80 #[.pointer (some ⟨p, 0, none⟩), f] w fun ev w' => ev = .returned (.bool true) ∧ ∃ q, w' = w.drewN q := by
  have kn : Hid (∀ q, Calls Tryd.prog 36 #[.pointer (some ⟨p, 0, none⟩)] (w.drewN q) fun ev w' => ev = .returned (.int .i64 0) ∧ ∃ m, w' = (w.drewN q).drewN m) := fun q => by
    have h := nursery_any p half 0 h0 h1 (by omega) (by omega) (w.drewN q) M.c0 M.c4
    rw [Int.zero_mul] at h
    exact h
  have ke : Hid (∀ w, Calls Tryd.prog 84 #[.slice (some ⟨b, 0, none⟩) 0 cW, .int .i64 0, f] w fun ev w' => ev = .returned (.bool true) ∧ w' = w) := fun w => eachOf_none _ 0 cW 0 f (by omega) w
  obtain ⟨c0, c1, c2, c3, c4, c5, c6, c7, c8, c9, c10⟩ := M
  have e1 : IntKind.i64.wrap (0 + 0) = 0 := by decide
  clear c0 c1 c2 c4 c6 c7 c8 c9 c10
  go_enter Tryd.func80, Tryd.ntmps80
  go_wp2_with fail
  go_quiet (first | (go_at_call 36; exact Calls.quiet_of (kn.out _)) | (go_at_call 84; exact Calls.quiet_of_same (ke.out _)))
  go_wp2
  go_ret
  exact ⟨rfl, _, rfl⟩
theorem eachOld_none (p b nW cW h : Nat) (old card used top : Int) (r k i c f : Value) (h1 : h ≤ 65536) (hw : 2 * h ≤ nW) (hc : nW ≤ cW) (w : World)
    (M : MemAt p (h : Int) old card (.slice (some ⟨b, 0, none⟩) nW cW) used top 0 r k i c w) :
    Calls Tryd.prog 75 #[.pointer (some ⟨p, 0, none⟩), f] w fun ev w' => ev = .returned (.bool true) ∧ ∃ q, w' = w.drewN q := by
  have kn : Hid (∀ q, Calls Tryd.prog 29 #[.pointer (some ⟨p, 0, none⟩)] (w.drewN q) fun ev w' => ev = .returned (.int .i64 (2 * (h : Int))) ∧ w' = w.drewN q) := fun q => oldFrom_any p h (by omega) (by omega) (w.drewN q) M.c0
  have ke : Hid (∀ w, Calls Tryd.prog 84 #[.slice (some ⟨b, 0, none⟩) (2 * h) cW, .int .i64 (2 * (h : Int)), f] w fun ev w' => ev = .returned (.bool true) ∧ w' = w) := fun w => eachOf_none _ (2 * h) cW _ f (by omega) w
  obtain ⟨c0, c1, c2, c3, c4, c5, c6, c7, c8, c9, c10⟩ := M
  have e1 : IntKind.i64.wrap (2 * (h : Int) + 0) = 2 * (h : Int) := wrapI _ (by omega) (by omega)
  clear c0 c1 c2 c4 c5 c7 c8 c9 c10
  go_enter Tryd.func75, Tryd.ntmps75
  go_wp2_with fail
  go_quiet (first | (go_at_call 29; exact Calls.quiet_of_same (kn.out _)) | (go_at_call 84; exact Calls.quiet_of_same (ke.out _)))
  go_wp2
  go_ret
  exact ⟨rfl, _, rfl⟩
/-- A memory with no objects. -/
structure Bare (p b h nW nC : Nat) (old card : Int) (aC : Option Addr) (w : World) : Prop where
  mem : MemAt p (h : Int) old card (.slice (some ⟨b, 0, none⟩) nW nW) 0 0 0 (.slice none 0 0) (.slice none 0 0) (.slice none 0 0) (.slice aC nC nC) w
  fits : Fits (h : Int) old card nW nC 0 0 0
theorem Bare.below {p b h nW nC B : Nat} {old card : Int} {aC : Option Addr} {w w' : World} (K : Bare p b h nW nC old card aC w) (hb : Below B w w') (hp : p < B) : Bare p b h nW nC old card aC w' := ⟨K.mem.below hb hp, K.fits⟩
theorem Bare.at {p b h nW nC : Nat} {old card : Int} {aC : Option Addr} {w : World} (K : Bare p b h nW nC old card aC w) : p < w.heap.size := lt_of_cell K.mem.c0

theorem eachOld_bare {p b h nW nC : Nat} {old card : Int} {aC : Option Addr} (f : Value) (w : World) (K : Bare p b h nW nC old card aC w) :
    Calls Tryd.prog 75 #[.pointer (some ⟨p, 0, none⟩), f] w fun ev w' => ev = .returned (.bool true) ∧ ∃ q, w' = w.drewN q := by
  have hf := K.fits.nums
  have hw := K.fits.w
  unfold numsOK at hf
  exact eachOld_none p b nW nW h old card 0 0 _ _ _ _ f (by omega) (by omega) (Nat.le_refl _) w K.mem
theorem each_bare {p b h nW nC : Nat} {old card : Int} {aC : Option Addr} (f : Value) (w : World) (K : Bare p b h nW nC old card aC w) :
    Calls Tryd.prog 66 #[.pointer (some ⟨p, 0, none⟩), f] w fun ev w' => ev = .returned (.bool true) ∧ Below w.heap.size w w' := by
  have hf := K.fits.nums
  unfold numsOK at hf
  have ky := eachYoung_none p b nW nW (h : Int) old card 0 _ _ _ _ f (by omega) (by omega) w K.mem
  go_enter Tryd.func66, Tryd.ntmps66
  go_wp2_with fail
  refine ky.mono ?_
  rintro ev w1 ⟨rfl, q, rfl⟩
  go_wp2_with fail
  refine (eachOld_bare f _ (K.below (below_drewN (Below.refl w.heap.size _)) K.at)).mono ?_
  rintro ev w1 ⟨rfl, q1, h1⟩
  rw [h1]
  clear h1 w1
  go_wp2_with fail
  go_ret
  exact ⟨rfl, below_drewN (Below.refl w.heap.size w)⟩
theorem two_below (w : World) (o o' : Obj) : Below w.heap.size w ((w.alloc o).alloc o') := ((Below.refl _ _).alloc (Nat.le_refl _) _).alloc (by simp) _
theorem findHeads_bare {p b h nW nC : Nat} {old card : Int} {aC : Option Addr} (ga : Option Addr) (gn gc : Nat) (w : World) (K : Bare p b h nW nC old card aC w) :
    Calls Tryd.prog 51 #[.pointer (some ⟨p, 0, none⟩), .slice ga gn gc] w fun ev w' => ev = .returned (.bool true) ∧ Below w.heap.size w w' := by
  go_enter Tryd.func51, Tryd.ntmps51
  go_wp2_with fail
  refine (each_bare _ _ (K.below (two_below w _ _) K.at)).mono ?_
  rintro ev w1 ⟨rfl, hb⟩
  go_wp2_with fail
  go_ret
  exact ⟨rfl, (two_below w _ _).trans (hb.mono (by simp; omega))⟩
theorem holdFields_bare {p b h nW nC : Nat} {old card : Int} {aC : Option Addr} (ga : Option Addr) (gn gc : Nat) (w : World) (K : Bare p b h nW nC old card aC w) :
    Calls Tryd.prog 52 #[.pointer (some ⟨p, 0, none⟩), .slice ga gn gc] w fun ev w' => ev = .returned (.bool true) ∧ Below w.heap.size w w' := by
  go_enter Tryd.func52, Tryd.ntmps52
  go_wp2_with fail
  refine (each_bare _ _ (K.below (two_below w _ _) K.at)).mono ?_
  rintro ev w1 ⟨rfl, hb⟩
  go_wp2_with fail
  go_ret
  exact ⟨rfl, (two_below w _ _).trans (hb.mono (by simp; omega))⟩
theorem eachOldField_bare {p b h nW nC : Nat} {old card : Int} {aC : Option Addr} (k : FuncId) (caps : Array Value) (w : World) (K : Bare p b h nW nC old card aC w) :
    Calls Tryd.prog 57 #[.pointer (some ⟨p, 0, none⟩), .func (.func k) #[] caps] w fun ev w' => ev = .returned (.bool true) ∧ Below w.heap.size w w' := by
  go_enter Tryd.func57, Tryd.ntmps57
  go_wp2_with fail
  refine (eachOld_bare _ _ (K.below ((Below.refl w.heap.size w).alloc (Nat.le_refl _) _) K.at)).mono ?_
  rintro ev w1 ⟨rfl, q, hq⟩
  rw [hq]
  clear hq w1
  go_wp2_with fail
  go_ret
  exact ⟨rfl, below_drewN ((Below.refl w.heap.size w).alloc (Nat.le_refl _) _)⟩
theorem carded_bare {p b h nW nC : Nat} {old card : Int} {aC : Option Addr} (w : World) (K : Bare p b h nW nC old card aC w) :
    Calls Tryd.prog 54 #[.pointer (some ⟨p, 0, none⟩)] w fun ev w' => ev = .returned (.bool true) ∧ Below w.heap.size w w' := by
  go_enter Tryd.func54, Tryd.ntmps54
  go_wp2_with fail
  refine (eachOldField_bare _ _ _ (K.below ((Below.refl w.heap.size w).alloc (Nat.le_refl _) _) K.at)).mono ?_
  rintro ev w1 ⟨rfl, hb⟩
  go_wp2_with fail
  go_ret
  exact ⟨rfl, ((Below.refl w.heap.size w).alloc (Nat.le_refl _) _).trans (hb.mono (by simp))⟩
theorem holdAll_none (g : Value) (w : World) :
    Calls Tryd.prog 34 #[g, .slice none 0 0] w fun ev w' => ev = .returned (.bool true) ∧ w' = w := by
  go_enter Tryd.func34, Tryd.ntmps34
  go_wp2_with fail
  refine wp_loop_rounds 1 ?_
  rw [rounds_succ]
  go_wp2
  go_ret
  exact ⟨rfl, rfl⟩
theorem holdIDs_none (g : Value) (w : World) :
    Calls Tryd.prog 53 #[g, .slice none 0 0] w fun ev w' => ev = .returned (.bool true) ∧ Below w.heap.size w w' := by
  have hmm := @run_makeMap Tryd.prog
  go_enter Tryd.func53, Tryd.ntmps53
  go_wp2_with fail
  refine wp_loop_rounds 1 ?_
  rw [rounds_succ]
  go_wp2
  go_ret
  exact ⟨rfl, two_below w _ _⟩
set_option maxRecDepth 100000 in
theorem make_heads (n : Nat) (hn : n ≤ 300000) (L : Int) (hL : L = (n : Int)) (w : World) :
    (Instr.makeSlice 69 (.int .i64 L) (.int .i64 L)).run Tryd.prog w = .ok (.slice (some ⟨w.heap.size, 0, none⟩) n n) (w.alloc (.cells (Array.replicate n (.bool false)) 4)) := by
  subst hL
  obtain ⟨i, hi, hz, h1, h8⟩ := infoBool
  have h := run_make (P := Tryd.prog) w 69 4 i (.bool false) Tryd.underlying69 hi hz .i64 .i64 (n : Int) (n : Int) (by omega) (by omega) (by rw [h8]; omega) (by omega)
  rw [h, h1]
  have e : madeCells (Value.bool false).cells ((n : Int).toNat * 1) = Array.replicate n (.bool false) := by
    apply Array.ext
    · simp [madeCells]
    · intro i h1 h2
      have e0 : i % 1 = 0 := Nat.mod_one i
      simp [madeCells, Value.cells, e0]
  rw [e]
  simp
set_option maxHeartbeats 2000000 in
set_option maxRecDepth 100000 in
theorem survey_bare {p b h nW nC : Nat} {old card : Int} {aC : Option Addr} (w : World) (K : Bare p b h nW nC old card aC w) :
    Calls Tryd.prog 31 #[.pointer (some ⟨p, 0, none⟩)] w fun ev w' => (∃ bh, ev = .returned (.tuple #[.slice (some ⟨bh, 0, none⟩) nW nW, .nilIface])) ∧ Below w.heap.size w w' := by
  have hmk : ∀ w : World, _ := make_heads nW (by have hn := K.fits.nums; have hw := K.fits.w; unfold numsOK at hn; omega) (nW : Int) rfl
  have km := measured_ok p (h : Int) old card nW nC nW nC _ aC 0 0 0 _ _ _ K.fits w K.mem
  have HK : Hid (Bare p b h nW nC old card aC w) := K
  have hp : p < w.heap.size := K.at
  obtain ⟨⟨c0, c1, c2, c3, c4, c5, c6, c7, c8, c9, c10⟩, HF⟩ := K
  clear HF
  go_enter Tryd.func31, Tryd.ntmps31
  go_wp2_with fail
  refine km.mono ?_
  rintro ev w1 ⟨rfl, q, hq⟩
  clear km
  have hb1 : Below w.heap.size w w1 := by rw [hq]; exact below_drewN (Below.refl _ _)
  clear hq q
  have K1 := HK.out.below hb1 hp
  have HK1 : Hid (Bare p b h nW nC old card aC w1) := K1
  have hp1 := K1.at
  obtain ⟨⟨d0, d1, d2, d3, d4, d5, d6, d7, d8, d9, d10⟩, HF⟩ := K1
  clear HF c0 c1 c2 c3 c4 c5 c6 c7 c8 c9 c10
  go_wp2_with fail
  have hb2 : Below w1.heap.size w1 (w1.alloc (.cells (Array.replicate nW (.bool false)) 4)) := (Below.refl _ _).alloc (Nat.le_refl _) _
  have K2 := HK1.out.below hb2 hp1
  refine (findHeads_bare _ _ _ _ K2).mono ?_
  rintro ev w2 ⟨rfl, hb3⟩
  have hb4 := hb2.trans (hb3.mono (by simp))
  have K3 := HK1.out.below hb4 hp1
  clear hb2 hb3 K2
  go_wp2_with fail
  refine (holdFields_bare _ _ _ _ K3).mono ?_
  rintro ev w3 ⟨rfl, hb5⟩
  have hb6 := hb4.trans (hb5.mono hb4.size)
  have K4 := HK1.out.below hb6 hp1
  have hp4 := K4.at
  clear hb4 hb5 K3 w2
  obtain ⟨⟨e0, e1, e2, e3, e4, e5, e6, e7, e8, e9, e10⟩, HF⟩ := K4
  clear HF
  go_wp2_with fail
  refine (holdAll_none _ _).mono ?_
  rintro ev w4 ⟨rfl, hq⟩
  rw [hq]
  clear hq w4
  go_wp2_with fail
  refine (holdAll_none _ _).mono ?_
  rintro ev w4 ⟨rfl, hq⟩
  rw [hq]
  clear hq w4
  go_wp2_with fail
  refine (holdIDs_none _ _).mono ?_
  rintro ev w4 ⟨rfl, hb7⟩
  have hb8 := hb6.trans (hb7.mono hb6.size)
  have K5 := HK1.out.below hb8 hp1
  clear hb6 hb7 e0 e1 e2 e3 e4 e5 e6 e7 e8 e9 e10 hp4
  go_wp2_with fail
  refine (carded_bare _ K5).mono ?_
  rintro ev w5 ⟨rfl, hb9⟩
  have hb10 := hb1.trans ((hb8.trans (hb9.mono hb8.size)).mono hb1.size)
  clear hb8 hb9 K5
  go_wp2_with fail
  go_ret2
  exact ⟨⟨_, rfl⟩, hb10⟩
theorem check_bare {p b h nW nC : Nat} {old card : Int} {aC : Option Addr} (w : World) (K : Bare p b h nW nC old card aC w) :
    Calls Tryd.prog 21 #[.pointer (some ⟨p, 0, none⟩)] w fun ev w' => ev = .returned .nilIface ∧ Below w.heap.size w w' := by
  go_enter Tryd.func21, Tryd.ntmps21
  go_wp2_with fail
  refine (survey_bare w K).mono ?_
  rintro ev w1 ⟨⟨bh, rfl⟩, hb⟩
  go_wp2_with fail
  go_ret
  exact ⟨rfl, hb⟩

theorem newW_facts (half old card : Int) (nW nC : Nat) (w : World) (q : Nat) : Below w.heap.size w ((newW half old card nW nC w).drewN q) ∧
    MemAt w.heap.size half old card (.slice (some ⟨w.heap.size + 1, 0, none⟩) nW nW) 0 0 0 (.slice none 0 0) (.slice none 0 0) (.slice none 0 0) (.slice (some ⟨w.heap.size + 2, 0, none⟩) nC nC) ((newW half old card nW nC w).drewN q) ∧
    ((newW half old card nW nC w).drewN q).heap[w.heap.size + 1]? = some (.cells (Array.replicate nW (.int .u64 0)) 48) ∧
    ((newW half old card nW nC w).drewN q).heap[w.heap.size + 2]? = some (.cells (Array.replicate nC (.bool false)) 4) := by
  refine ⟨below_drewN ((two_below w _ _).alloc (by simp; omega) _), ?_, ?_, ?_⟩
  · exact (memAt_alloc w half old card (.slice (some ⟨w.heap.size + 1, 0, none⟩) nW nW) 0 0 0 (.slice none 0 0) (.slice none 0 0) (.slice none 0 0) (.slice (some ⟨w.heap.size + 2, 0, none⟩) nC nC) 53).below (B := w.heap.size + 1) (below_drewN (((Below.refl _ _).alloc (by simp) _).alloc (by simp) _)) (by simp)
  · show (newW half old card nW nC w).heap[w.heap.size + 1]? = _
    unfold newW World.alloc
    simp [Array.getElem_push]
  · show (newW half old card nW nC w).heap[w.heap.size + 2]? = _
    unfold newW World.alloc
    simp [Array.getElem_push]
end Go.Proofs.YtopcpeemibmgbaaDoor
