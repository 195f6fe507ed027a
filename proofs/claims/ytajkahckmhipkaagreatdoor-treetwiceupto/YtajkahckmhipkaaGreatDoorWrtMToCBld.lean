/- Package tree's writer, whatever it is handed: statement, each kind. (Written by a program of ours: wrt/stmt.py.) -/
import Derived.Test.YtajkahckmhipkaaGreatDoorWrtKToWrtL
import Derived.Shelf.Lays
import Derived.Shelf.LaysM
import Derived.Shelf.Strings.BuilderF
import Derived.Shelf.Strings.BuilderK
import Derived.Shelf.Strings.Builder1
import Derived.Shelf.Small.Strs
import Derived.Shelf.Strconv.Itoa0
import Derived.Shelf.Strconv.Itoa1
import Derived.Shelf.Strconv.Itoa2
import Derived.Shelf.Strconv.Itoa3
import Derived.Shelf.Strconv.Itoa4
import Derived.Shelf.Strconv.ParseIntEmpty
import Derived.Shelf.Strconv.Clone
import Derived.Shelf.Strconv.SyntaxError
import Derived.Shelf.LaysC
import Derived.Shelf.Strconv.ToError
import Derived.Shelf.Strconv.Lower
import Derived.Shelf.Strconv.ParseUint10
import Derived.Shelf.Strconv.ParseUint10Empty
import Derived.Shelf.Strconv.ParseUint10Any
import Derived.Shelf.Strconv.ParseInt10
import Derived.Shelf.Strconv.RangeError
import Derived.Shelf.Strconv.ToErrorRange
import Derived.Shelf.Strconv.ParseUintEmpty
import Derived.Shelf.Strconv.ParseUint10b64
import Derived.Shelf.Strconv.ParseUint10b32
import Derived.Shelf.Strconv.ParseUint10b16
import Derived.Shelf.Strconv.ParseUint10b8
import Derived.Shelf.Strconv.ParseUint10At
import Derived.Shelf.Strconv.ParseInt10At64
import Derived.Shelf.Strconv.ParseInt10At32
import Derived.Shelf.Strconv.ParseInt10At16
import Derived.Shelf.Strconv.ParseInt10At8
import Derived.Shelf.Strconv.ParseInt10All
import Derived.Shelf.Strconv.ParseIntPublic10
import Derived.Shelf.Strconv.ErrVarParseInt
import Derived.Shelf.Strings.Search1
import Derived.Test.YtajkahckmhipkaaGreatDoorProg
namespace Go.Proofs.YtajkahckmhipkaaGreatDoor
open Go.RowKit Go.Lib

set_option maxHeartbeats 4000000 in
set_option maxRecDepth 100000 in
theorem stW_if {p : Nat} {rk : Value} {w1 : World} {n k : Nat} (H : RW p rk w1 k) (S : SW p rk w1 k n) (CC : CH p rk w1 k (n + 1)) {nm : ByteArray} {pa : Option Addr} {pn pc : Nat} {la : Option Addr} {ln lc : Nat} {ba : Option Addr} {bn bc : Nat} {ea : Option Addr} {en ec : Nat} (ht : sv w1 p k (n + 1) ⟨#[105, 102]⟩ nm pa pn pc la ln lc ba bn bc ea en ec) (hl : 1 ≤ ln) (d : Nat) (hd : d + (n + 1) ≤ 1152921504606846976) (w : World) (C : WT p rk w1 w) :
    Calls Tryz.prog 24 #[.pointer (some ⟨p, 0, none⟩), .agg #[.string ⟨#[105, 102]⟩, .string nm, .slice pa pn pc, .slice la ln lc, .slice ba bn bc, .slice ea en ec], .int .i64 (d : Int)] w fun ev w' => ev = .returned (.tuple #[]) ∧ WX p rk w1 w w' := by
  obtain ⟨_, hnm, hpn, ⟨f, hN⟩, _, hln, hrow, hbn, hen, hB, hEl⟩ := id ht
  obtain ⟨wE, hE⟩ : ∃ wE, wE = w.alloc (.cells #[.string ⟨#[105, 102]⟩, .string nm, .slice pa pn pc, .slice la ln lc, .slice ba bn bc, .slice ea en ec] 39) := ⟨_, rfl⟩
  have hWE : WX p rk w1 w wE := by rw [hE]; exact (WX.start C).alloc _
  have hq : wE.heap[w.heap.size]? = some (.cells #[.string ⟨#[105, 102]⟩, .string nm, .slice pa pn pc, .slice la ln lc, .slice ba bn bc, .slice ea en ec] 39) := by rw [hE]; exact heap_alloc_new _ _
  have HE := toHidP hE
  have hp := C.lt
  have HK : Hid (∀ w', WX p rk w1 wE w' → w'.cell? ⟨w.heap.size, 0, none⟩ = some (.string ⟨#[105, 102]⟩) ∧ w'.cell? ⟨w.heap.size, 1, none⟩ = some (.string nm) ∧ w'.cell? ⟨w.heap.size, 2, none⟩ = some (.slice pa pn pc) ∧ w'.cell? ⟨w.heap.size, 3, none⟩ = some (.slice la ln lc) ∧ w'.cell? ⟨w.heap.size, 4, none⟩ = some (.slice ba bn bc) ∧ w'.cell? ⟨w.heap.size, 5, none⟩ = some (.slice ea en ec)) := fun w' h => let e := stmt_block (h.block hq (by omega) (by decide)); ⟨e.1, e.2.1, e.2.2.1, e.2.2.2.1, e.2.2.2.2.1, e.2.2.2.2.2.1⟩
  have HCA := toHidP hWE
  have HH := toHidP H
  have HSS := toHidP S
  have HCC := toHidP CC
  have HT := toHidP ht
  have HN := toHidP hN
  have HBR := toHidP hB
  have HER := toHidP hEl
  have ht1 : termsN ⟨#[105, 102]⟩ = 1 := by kernel_rfl
  have hL1 : ¬ (ln : Int) < 1 := by omega
  clear C hE hWE hq H S CC ht hN hrow hB hEl
  go_enter Tryz.func24, Tryz.ntmps24
  go_wp2_with fail
  go_quiet ((go_at_call 36; exact Calls.quiet_of_same (termsOf_any _ _)))
  rw [← HE.out]
  obtain ⟨wD, hwD⟩ : ∃ wD, wD = wE.drewN nq := ⟨_, rfl⟩
  have GD : Hid (WX p rk w1 wE wD) := by show WX _ _ _ _ _; rw [hwD]; exact (WX.start HCA.out.wt).drewN
  rw [← hwD]
  obtain ⟨x0, x1, x2, x3, x4, x5⟩ := HK.out wD GD.out
  clear hwD
  go_wp2_with fail
  refine (HCC.out ⟨#[105, 102, 32]⟩ (by decide) _ _ _ _ _ _ _ _ _ _ _ _ _ _ HT.out d hd _ GD.out.wt).mono ?_
  rintro ev v0 ⟨rfl, g0⟩
  have G0 := toHidP (GD.out.trans g0)
  clear x0 x1 x2 x3 x4 x5
  clear g0
  go_wp2_with fail
  go_end0
  exact ⟨rfl, HCA.out.trans G0.out⟩
set_option maxHeartbeats 4000000 in
set_option maxRecDepth 100000 in
theorem stW_while {p : Nat} {rk : Value} {w1 : World} {n k : Nat} (H : RW p rk w1 k) (S : SW p rk w1 k n) (CC : CH p rk w1 k (n + 1)) {nm : ByteArray} {pa : Option Addr} {pn pc : Nat} {la : Option Addr} {ln lc : Nat} {ba : Option Addr} {bn bc : Nat} {ea : Option Addr} {en ec : Nat} (ht : sv w1 p k (n + 1) ⟨#[119, 104, 105, 108, 101]⟩ nm pa pn pc la ln lc ba bn bc ea en ec) (hl : 1 ≤ ln) (d : Nat) (hd : d + (n + 1) ≤ 1152921504606846976) (w : World) (C : WT p rk w1 w) :
    Calls Tryz.prog 24 #[.pointer (some ⟨p, 0, none⟩), .agg #[.string ⟨#[119, 104, 105, 108, 101]⟩, .string nm, .slice pa pn pc, .slice la ln lc, .slice ba bn bc, .slice ea en ec], .int .i64 (d : Int)] w fun ev w' => ev = .returned (.tuple #[]) ∧ WX p rk w1 w w' := by
  obtain ⟨_, hnm, hpn, ⟨f, hN⟩, _, hln, hrow, hbn, hen, hB, hEl⟩ := id ht
  obtain ⟨b, o, rfl, hb, op0, z0, s0, pa0, pn0, pc0, la0, ln0, lc0, k0, k1, k2, k3, k4, ht0⟩ := hrow.first (by omega)
  have HT0 := toHidP ht0
  have hL : (0 : Int) < (ln : Int) := by omega
  obtain ⟨wE, hE⟩ : ∃ wE, wE = w.alloc (.cells #[.string ⟨#[119, 104, 105, 108, 101]⟩, .string nm, .slice pa pn pc, .slice (some ⟨b, o, none⟩) ln lc, .slice ba bn bc, .slice ea en ec] 39) := ⟨_, rfl⟩
  have hWE : WX p rk w1 w wE := by rw [hE]; exact (WX.start C).alloc _
  have hq : wE.heap[w.heap.size]? = some (.cells #[.string ⟨#[119, 104, 105, 108, 101]⟩, .string nm, .slice pa pn pc, .slice (some ⟨b, o, none⟩) ln lc, .slice ba bn bc, .slice ea en ec] 39) := by rw [hE]; exact heap_alloc_new _ _
  have HE := toHidP hE
  have hp := C.lt
  have HK : Hid (∀ w', WX p rk w1 wE w' → w'.cell? ⟨w.heap.size, 0, none⟩ = some (.string ⟨#[119, 104, 105, 108, 101]⟩) ∧ w'.cell? ⟨w.heap.size, 1, none⟩ = some (.string nm) ∧ w'.cell? ⟨w.heap.size, 2, none⟩ = some (.slice pa pn pc) ∧ w'.cell? ⟨w.heap.size, 3, none⟩ = some (.slice (some ⟨b, o, none⟩) ln lc) ∧ w'.cell? ⟨w.heap.size, 4, none⟩ = some (.slice ba bn bc) ∧ w'.cell? ⟨w.heap.size, 5, none⟩ = some (.slice ea en ec) ∧ w'.cell? ⟨b, o, none⟩ = some (.string op0) ∧ w'.cell? ⟨b, o + 1, none⟩ = some (.int .i64 z0) ∧ w'.cell? ⟨b, o + 2, none⟩ = some (.string s0) ∧ w'.cell? ⟨b, o + 3, none⟩ = some (.slice pa0 pn0 pc0) ∧ w'.cell? ⟨b, o + 4, none⟩ = some (.slice la0 ln0 lc0)) := fun w' h => let e := stmt_block (h.block hq (by omega) (by decide)); ⟨e.1, e.2.1, e.2.2.1, e.2.2.2.1, e.2.2.2.2.1, e.2.2.2.2.2.1, h.wt.old (a := ⟨b, o, none⟩) hb k0, h.wt.old (a := ⟨b, o + 1, none⟩) hb k1, h.wt.old (a := ⟨b, o + 2, none⟩) hb k2, h.wt.old (a := ⟨b, o + 3, none⟩) hb k3, h.wt.old (a := ⟨b, o + 4, none⟩) hb k4⟩
  have HCA := toHidP hWE
  have HH := toHidP H
  have HSS := toHidP S
  have HCC := toHidP CC
  have HT := toHidP ht
  have HN := toHidP hN
  have HBR := toHidP hB
  have HER := toHidP hEl
  have ht1 : termsN ⟨#[119, 104, 105, 108, 101]⟩ = 1 := by kernel_rfl
  have hL1 : ¬ (ln : Int) < 1 := by omega
  clear C hE hWE hq H S CC ht hN hrow hB hEl ht0 k0 k1 k2 k3 k4
  go_enter Tryz.func24, Tryz.ntmps24
  go_wp2_with fail
  go_quiet ((go_at_call 36; exact Calls.quiet_of_same (termsOf_any _ _)))
  rw [← HE.out]
  obtain ⟨wD, hwD⟩ : ∃ wD, wD = wE.drewN nq := ⟨_, rfl⟩
  have GD : Hid (WX p rk w1 wE wD) := by show WX _ _ _ _ _; rw [hwD]; exact (WX.start HCA.out.wt).drewN
  rw [← hwD]
  obtain ⟨x0, x1, x2, x3, x4, x5, y0, y1, y2, y3, y4⟩ := HK.out wD GD.out
  clear hwD
  go_wp2_with fail
  refine (put1 GD.out ⟨#[119, 104, 105, 108, 101, 32]⟩ (by decide)).mono ?_
  rintro ev v0 ⟨rfl, g0⟩
  have G0 := toHidP g0
  clear x0 x1 x2 x3 x4 x5 y0 y1 y2 y3 y4
  obtain ⟨x0, x1, x2, x3, x4, x5, y0, y1, y2, y3, y4⟩ := HK.out v0 G0.out
  clear g0
  go_wp2_with fail
  refine (term_wt HH.out HT0.out _ G0.out.wt).mono ?_
  rintro ev v1 ⟨rfl, g1⟩
  have G1 := toHidP (G0.out.trans g1)
  clear x0 x1 x2 x3 x4 x5 y0 y1 y2 y3 y4
  obtain ⟨x0, x1, x2, x3, x4, x5, y0, y1, y2, y3, y4⟩ := HK.out v1 G1.out
  clear g1
  go_wp2_with fail
  refine (block_wt HSS.out ba bn bc HBR.out hbn d (by omega) _ G1.out.wt).mono ?_
  rintro ev v2 ⟨rfl, g2⟩
  have G2 := toHidP (G1.out.trans g2)
  clear x0 x1 x2 x3 x4 x5 y0 y1 y2 y3 y4
  clear g2
  go_wp2_with fail
  go_end0
  exact ⟨rfl, HCA.out.trans G2.out⟩
set_option maxHeartbeats 4000000 in
set_option maxRecDepth 100000 in
theorem stW_for {p : Nat} {rk : Value} {w1 : World} {n k : Nat} (H : RW p rk w1 k) (S : SW p rk w1 k n) (CC : CH p rk w1 k (n + 1)) {nm : ByteArray} {pa : Option Addr} {pn pc : Nat} {la : Option Addr} {ln lc : Nat} {ba : Option Addr} {bn bc : Nat} {ea : Option Addr} {en ec : Nat} (ht : sv w1 p k (n + 1) ⟨#[102, 111, 114]⟩ nm pa pn pc la ln lc ba bn bc ea en ec) (hl : 1 ≤ ln) (d : Nat) (hd : d + (n + 1) ≤ 1152921504606846976) (w : World) (C : WT p rk w1 w) :
    Calls Tryz.prog 24 #[.pointer (some ⟨p, 0, none⟩), .agg #[.string ⟨#[102, 111, 114]⟩, .string nm, .slice pa pn pc, .slice la ln lc, .slice ba bn bc, .slice ea en ec], .int .i64 (d : Int)] w fun ev w' => ev = .returned (.tuple #[]) ∧ WX p rk w1 w w' := by
  obtain ⟨_, hnm, hpn, ⟨f, hN⟩, _, hln, hrow, hbn, hen, hB, hEl⟩ := id ht
  obtain ⟨b, o, rfl, hb, op0, z0, s0, pa0, pn0, pc0, la0, ln0, lc0, k0, k1, k2, k3, k4, ht0⟩ := hrow.first (by omega)
  have HT0 := toHidP ht0
  have hL : (0 : Int) < (ln : Int) := by omega
  obtain ⟨wE, hE⟩ : ∃ wE, wE = w.alloc (.cells #[.string ⟨#[102, 111, 114]⟩, .string nm, .slice pa pn pc, .slice (some ⟨b, o, none⟩) ln lc, .slice ba bn bc, .slice ea en ec] 39) := ⟨_, rfl⟩
  have hWE : WX p rk w1 w wE := by rw [hE]; exact (WX.start C).alloc _
  have hq : wE.heap[w.heap.size]? = some (.cells #[.string ⟨#[102, 111, 114]⟩, .string nm, .slice pa pn pc, .slice (some ⟨b, o, none⟩) ln lc, .slice ba bn bc, .slice ea en ec] 39) := by rw [hE]; exact heap_alloc_new _ _
  have HE := toHidP hE
  have hp := C.lt
  have HK : Hid (∀ w', WX p rk w1 wE w' → w'.cell? ⟨w.heap.size, 0, none⟩ = some (.string ⟨#[102, 111, 114]⟩) ∧ w'.cell? ⟨w.heap.size, 1, none⟩ = some (.string nm) ∧ w'.cell? ⟨w.heap.size, 2, none⟩ = some (.slice pa pn pc) ∧ w'.cell? ⟨w.heap.size, 3, none⟩ = some (.slice (some ⟨b, o, none⟩) ln lc) ∧ w'.cell? ⟨w.heap.size, 4, none⟩ = some (.slice ba bn bc) ∧ w'.cell? ⟨w.heap.size, 5, none⟩ = some (.slice ea en ec) ∧ w'.cell? ⟨b, o, none⟩ = some (.string op0) ∧ w'.cell? ⟨b, o + 1, none⟩ = some (.int .i64 z0) ∧ w'.cell? ⟨b, o + 2, none⟩ = some (.string s0) ∧ w'.cell? ⟨b, o + 3, none⟩ = some (.slice pa0 pn0 pc0) ∧ w'.cell? ⟨b, o + 4, none⟩ = some (.slice la0 ln0 lc0)) := fun w' h => let e := stmt_block (h.block hq (by omega) (by decide)); ⟨e.1, e.2.1, e.2.2.1, e.2.2.2.1, e.2.2.2.2.1, e.2.2.2.2.2.1, h.wt.old (a := ⟨b, o, none⟩) hb k0, h.wt.old (a := ⟨b, o + 1, none⟩) hb k1, h.wt.old (a := ⟨b, o + 2, none⟩) hb k2, h.wt.old (a := ⟨b, o + 3, none⟩) hb k3, h.wt.old (a := ⟨b, o + 4, none⟩) hb k4⟩
  have HCA := toHidP hWE
  have HH := toHidP H
  have HSS := toHidP S
  have HCC := toHidP CC
  have HT := toHidP ht
  have HN := toHidP hN
  have HBR := toHidP hB
  have HER := toHidP hEl
  have ht1 : termsN ⟨#[102, 111, 114]⟩ = 1 := by kernel_rfl
  have hL1 : ¬ (ln : Int) < 1 := by omega
  clear C hE hWE hq H S CC ht hN hrow hB hEl ht0 k0 k1 k2 k3 k4
  go_enter Tryz.func24, Tryz.ntmps24
  go_wp2_with fail
  go_quiet ((go_at_call 36; exact Calls.quiet_of_same (termsOf_any _ _)))
  rw [← HE.out]
  obtain ⟨wD, hwD⟩ : ∃ wD, wD = wE.drewN nq := ⟨_, rfl⟩
  have GD : Hid (WX p rk w1 wE wD) := by show WX _ _ _ _ _; rw [hwD]; exact (WX.start HCA.out.wt).drewN
  rw [← hwD]
  obtain ⟨x0, x1, x2, x3, x4, x5, y0, y1, y2, y3, y4⟩ := HK.out wD GD.out
  clear hwD
  go_wp2_with fail
  refine (put3 GD.out ⟨#[102, 111, 114, 32]⟩ nm ⟨#[32, 105, 110, 32]⟩ (by decide) hnm (by decide)).mono ?_
  rintro ev v0 ⟨rfl, g0⟩
  have G0 := toHidP g0
  clear x0 x1 x2 x3 x4 x5 y0 y1 y2 y3 y4
  obtain ⟨x0, x1, x2, x3, x4, x5, y0, y1, y2, y3, y4⟩ := HK.out v0 G0.out
  clear g0
  go_wp2_with fail
  refine (term_wt HH.out HT0.out _ G0.out.wt).mono ?_
  rintro ev v1 ⟨rfl, g1⟩
  have G1 := toHidP (G0.out.trans g1)
  clear x0 x1 x2 x3 x4 x5 y0 y1 y2 y3 y4
  obtain ⟨x0, x1, x2, x3, x4, x5, y0, y1, y2, y3, y4⟩ := HK.out v1 G1.out
  clear g1
  go_wp2_with fail
  refine (block_wt HSS.out ba bn bc HBR.out hbn d (by omega) _ G1.out.wt).mono ?_
  rintro ev v2 ⟨rfl, g2⟩
  have G2 := toHidP (G1.out.trans g2)
  clear x0 x1 x2 x3 x4 x5 y0 y1 y2 y3 y4
  clear g2
  go_wp2_with fail
  go_end0
  exact ⟨rfl, HCA.out.trans G2.out⟩
set_option maxHeartbeats 4000000 in
set_option maxRecDepth 100000 in
theorem stW_def {p : Nat} {rk : Value} {w1 : World} {n k : Nat} (H : RW p rk w1 k) (S : SW p rk w1 k n) (CC : CH p rk w1 k (n + 1)) {nm : ByteArray} {pa : Option Addr} {pn pc : Nat} {la : Option Addr} {ln lc : Nat} {ba : Option Addr} {bn bc : Nat} {ea : Option Addr} {en ec : Nat} (ht : sv w1 p k (n + 1) ⟨#[100, 101, 102]⟩ nm pa pn pc la ln lc ba bn bc ea en ec) (hl : 0 ≤ ln) (d : Nat) (hd : d + (n + 1) ≤ 1152921504606846976) (w : World) (C : WT p rk w1 w) :
    Calls Tryz.prog 24 #[.pointer (some ⟨p, 0, none⟩), .agg #[.string ⟨#[100, 101, 102]⟩, .string nm, .slice pa pn pc, .slice la ln lc, .slice ba bn bc, .slice ea en ec], .int .i64 (d : Int)] w fun ev w' => ev = .returned (.tuple #[]) ∧ WX p rk w1 w w' := by
  obtain ⟨_, hnm, hpn, ⟨f, hN⟩, _, hln, hrow, hbn, hen, hB, hEl⟩ := id ht
  obtain ⟨wE, hE⟩ : ∃ wE, wE = w.alloc (.cells #[.string ⟨#[100, 101, 102]⟩, .string nm, .slice pa pn pc, .slice la ln lc, .slice ba bn bc, .slice ea en ec] 39) := ⟨_, rfl⟩
  have hWE : WX p rk w1 w wE := by rw [hE]; exact (WX.start C).alloc _
  have hq : wE.heap[w.heap.size]? = some (.cells #[.string ⟨#[100, 101, 102]⟩, .string nm, .slice pa pn pc, .slice la ln lc, .slice ba bn bc, .slice ea en ec] 39) := by rw [hE]; exact heap_alloc_new _ _
  have HE := toHidP hE
  have hp := C.lt
  have HK : Hid (∀ w', WX p rk w1 wE w' → w'.cell? ⟨w.heap.size, 0, none⟩ = some (.string ⟨#[100, 101, 102]⟩) ∧ w'.cell? ⟨w.heap.size, 1, none⟩ = some (.string nm) ∧ w'.cell? ⟨w.heap.size, 2, none⟩ = some (.slice pa pn pc) ∧ w'.cell? ⟨w.heap.size, 3, none⟩ = some (.slice la ln lc) ∧ w'.cell? ⟨w.heap.size, 4, none⟩ = some (.slice ba bn bc) ∧ w'.cell? ⟨w.heap.size, 5, none⟩ = some (.slice ea en ec)) := fun w' h => let e := stmt_block (h.block hq (by omega) (by decide)); ⟨e.1, e.2.1, e.2.2.1, e.2.2.2.1, e.2.2.2.2.1, e.2.2.2.2.2.1⟩
  have HCA := toHidP hWE
  have HH := toHidP H
  have HSS := toHidP S
  have HCC := toHidP CC
  have HT := toHidP ht
  have HN := toHidP hN
  have HBR := toHidP hB
  have HER := toHidP hEl
  have ht1 : termsN ⟨#[100, 101, 102]⟩ = 0 := by kernel_rfl
  have hL1 : ¬ (ln : Int) < 0 := by omega
  clear C hE hWE hq H S CC ht hN hrow hB hEl
  go_enter Tryz.func24, Tryz.ntmps24
  go_wp2_with fail
  go_quiet ((go_at_call 36; exact Calls.quiet_of_same (termsOf_any _ _)))
  rw [← HE.out]
  obtain ⟨wD, hwD⟩ : ∃ wD, wD = wE.drewN nq := ⟨_, rfl⟩
  have GD : Hid (WX p rk w1 wE wD) := by show WX _ _ _ _ _; rw [hwD]; exact (WX.start HCA.out.wt).drewN
  rw [← hwD]
  obtain ⟨x0, x1, x2, x3, x4, x5⟩ := HK.out wD GD.out
  clear hwD
  go_wp2_with fail
  refine (put3 GD.out ⟨#[100, 101, 102, 32]⟩ nm ⟨#[40]⟩ (by decide) hnm (by decide)).mono ?_
  rintro ev v0 ⟨rfl, g0⟩
  have G0 := toHidP g0
  clear x0 x1 x2 x3 x4 x5
  obtain ⟨x0, x1, x2, x3, x4, x5⟩ := HK.out v0 G0.out
  clear g0
  go_wp2_with fail
  refine (names_wt pa pn pc f HN.out hpn _ G0.out.wt).mono ?_
  rintro ev v1 ⟨rfl, g1⟩
  have G1 := toHidP (G0.out.trans g1)
  clear x0 x1 x2 x3 x4 x5
  obtain ⟨x0, x1, x2, x3, x4, x5⟩ := HK.out v1 G1.out
  clear g1
  go_wp2_with fail
  refine (put1 G1.out ⟨#[41]⟩ (by decide)).mono ?_
  rintro ev v2 ⟨rfl, g2⟩
  have G2 := toHidP g2
  clear x0 x1 x2 x3 x4 x5
  obtain ⟨x0, x1, x2, x3, x4, x5⟩ := HK.out v2 G2.out
  clear g2
  go_wp2_with fail
  refine (block_wt HSS.out ba bn bc HBR.out hbn d (by omega) _ G2.out.wt).mono ?_
  rintro ev v3 ⟨rfl, g3⟩
  have G3 := toHidP (G2.out.trans g3)
  clear x0 x1 x2 x3 x4 x5
  clear g3
  go_wp2_with fail
  go_end0
  exact ⟨rfl, HCA.out.trans G3.out⟩
set_option maxHeartbeats 4000000 in
set_option maxRecDepth 100000 in
theorem stW_try {p : Nat} {rk : Value} {w1 : World} {n k : Nat} (H : RW p rk w1 k) (S : SW p rk w1 k n) (CC : CH p rk w1 k (n + 1)) {nm : ByteArray} {pa : Option Addr} {pn pc : Nat} {la : Option Addr} {ln lc : Nat} {ba : Option Addr} {bn bc : Nat} {ea : Option Addr} {en ec : Nat} (ht : sv w1 p k (n + 1) ⟨#[116, 114, 121]⟩ nm pa pn pc la ln lc ba bn bc ea en ec) (hl : 0 ≤ ln) (d : Nat) (hd : d + (n + 1) ≤ 1152921504606846976) (w : World) (C : WT p rk w1 w) :
    Calls Tryz.prog 24 #[.pointer (some ⟨p, 0, none⟩), .agg #[.string ⟨#[116, 114, 121]⟩, .string nm, .slice pa pn pc, .slice la ln lc, .slice ba bn bc, .slice ea en ec], .int .i64 (d : Int)] w fun ev w' => ev = .returned (.tuple #[]) ∧ WX p rk w1 w w' := by
  obtain ⟨_, hnm, hpn, ⟨f, hN⟩, _, hln, hrow, hbn, hen, hB, hEl⟩ := id ht
  obtain ⟨wE, hE⟩ : ∃ wE, wE = w.alloc (.cells #[.string ⟨#[116, 114, 121]⟩, .string nm, .slice pa pn pc, .slice la ln lc, .slice ba bn bc, .slice ea en ec] 39) := ⟨_, rfl⟩
  have hWE : WX p rk w1 w wE := by rw [hE]; exact (WX.start C).alloc _
  have hq : wE.heap[w.heap.size]? = some (.cells #[.string ⟨#[116, 114, 121]⟩, .string nm, .slice pa pn pc, .slice la ln lc, .slice ba bn bc, .slice ea en ec] 39) := by rw [hE]; exact heap_alloc_new _ _
  have HE := toHidP hE
  have hp := C.lt
  have HK : Hid (∀ w', WX p rk w1 wE w' → w'.cell? ⟨w.heap.size, 0, none⟩ = some (.string ⟨#[116, 114, 121]⟩) ∧ w'.cell? ⟨w.heap.size, 1, none⟩ = some (.string nm) ∧ w'.cell? ⟨w.heap.size, 2, none⟩ = some (.slice pa pn pc) ∧ w'.cell? ⟨w.heap.size, 3, none⟩ = some (.slice la ln lc) ∧ w'.cell? ⟨w.heap.size, 4, none⟩ = some (.slice ba bn bc) ∧ w'.cell? ⟨w.heap.size, 5, none⟩ = some (.slice ea en ec)) := fun w' h => let e := stmt_block (h.block hq (by omega) (by decide)); ⟨e.1, e.2.1, e.2.2.1, e.2.2.2.1, e.2.2.2.2.1, e.2.2.2.2.2.1⟩
  have HCA := toHidP hWE
  have HH := toHidP H
  have HSS := toHidP S
  have HCC := toHidP CC
  have HT := toHidP ht
  have HN := toHidP hN
  have HBR := toHidP hB
  have HER := toHidP hEl
  have ht1 : termsN ⟨#[116, 114, 121]⟩ = 0 := by kernel_rfl
  have hL1 : ¬ (ln : Int) < 0 := by omega
  clear C hE hWE hq H S CC ht hN hrow hB hEl
  go_enter Tryz.func24, Tryz.ntmps24
  go_wp2_with fail
  go_quiet ((go_at_call 36; exact Calls.quiet_of_same (termsOf_any _ _)))
  rw [← HE.out]
  obtain ⟨wD, hwD⟩ : ∃ wD, wD = wE.drewN nq := ⟨_, rfl⟩
  have GD : Hid (WX p rk w1 wE wD) := by show WX _ _ _ _ _; rw [hwD]; exact (WX.start HCA.out.wt).drewN
  rw [← hwD]
  obtain ⟨x0, x1, x2, x3, x4, x5⟩ := HK.out wD GD.out
  clear hwD
  go_wp2_with fail
  refine (put1 GD.out ⟨#[116, 114, 121]⟩ (by decide)).mono ?_
  rintro ev v0 ⟨rfl, g0⟩
  have G0 := toHidP g0
  clear x0 x1 x2 x3 x4 x5
  obtain ⟨x0, x1, x2, x3, x4, x5⟩ := HK.out v0 G0.out
  clear g0
  go_wp2_with fail
  refine (block_wt HSS.out ba bn bc HBR.out hbn d (by omega) _ G0.out.wt).mono ?_
  rintro ev v1 ⟨rfl, g1⟩
  have G1 := toHidP (G0.out.trans g1)
  clear x0 x1 x2 x3 x4 x5
  obtain ⟨x0, x1, x2, x3, x4, x5⟩ := HK.out v1 G1.out
  clear g1
  go_wp2_with fail
  refine (begin_wt d (by omega) _ G1.out.wt).mono ?_
  rintro ev v2 ⟨rfl, g2⟩
  have G2 := toHidP (G1.out.trans g2)
  clear x0 x1 x2 x3 x4 x5
  obtain ⟨x0, x1, x2, x3, x4, x5⟩ := HK.out v2 G2.out
  clear g2
  go_wp2_with fail
  refine (put2 G2.out ⟨#[101, 120, 99, 101, 112, 116, 32]⟩ nm (by decide) hnm).mono ?_
  rintro ev v3 ⟨rfl, g3⟩
  have G3 := toHidP g3
  clear x0 x1 x2 x3 x4 x5
  obtain ⟨x0, x1, x2, x3, x4, x5⟩ := HK.out v3 G3.out
  clear g3
  go_wp2_with fail
  refine (block_wt HSS.out ea en ec HER.out hen d (by omega) _ G3.out.wt).mono ?_
  rintro ev v4 ⟨rfl, g4⟩
  have G4 := toHidP (G3.out.trans g4)
  clear x0 x1 x2 x3 x4 x5
  clear g4
  go_wp2_with fail
  go_end0
  exact ⟨rfl, HCA.out.trans G4.out⟩
set_option maxHeartbeats 4000000 in
set_option maxRecDepth 100000 in
theorem stW_other {p : Nat} {rk : Value} {w1 : World} {n k : Nat} (H : RW p rk w1 k) (S : SW p rk w1 k n) (CC : CH p rk w1 k (n + 1)) {kd nm : ByteArray} {pa : Option Addr} {pn pc : Nat} {la : Option Addr} {ln lc : Nat} {ba : Option Addr} {bn bc : Nat} {ea : Option Addr} {en ec : Nat} (n0 : (kd.toList == [105, 102]) = false) (n1 : (kd.toList == [119, 104, 105, 108, 101]) = false) (n2 : (kd.toList == [102, 111, 114]) = false) (n3 : (kd.toList == [100, 101, 102]) = false) (n4 : (kd.toList == [116, 114, 121]) = false) (ht : sv w1 p k (n + 1) kd nm pa pn pc la ln lc ba bn bc ea en ec) (hl : termsN kd ≤ ln) (d : Nat) (_ : d + (n + 1) ≤ 1152921504606846976) (w : World) (C : WT p rk w1 w) :
    Calls Tryz.prog 24 #[.pointer (some ⟨p, 0, none⟩), .agg #[.string kd, .string nm, .slice pa pn pc, .slice la ln lc, .slice ba bn bc, .slice ea en ec], .int .i64 (d : Int)] w fun ev w' => ev = .returned (.tuple #[]) ∧ WX p rk w1 w w' := by
  obtain ⟨_, hnm, hpn, ⟨f, hN⟩, _, hln, hrow, hbn, hen, hB, hEl⟩ := id ht
  obtain ⟨wE, hE⟩ : ∃ wE, wE = w.alloc (.cells #[.string kd, .string nm, .slice pa pn pc, .slice la ln lc, .slice ba bn bc, .slice ea en ec] 39) := ⟨_, rfl⟩
  have hWE : WX p rk w1 w wE := by rw [hE]; exact (WX.start C).alloc _
  have hq : wE.heap[w.heap.size]? = some (.cells #[.string kd, .string nm, .slice pa pn pc, .slice la ln lc, .slice ba bn bc, .slice ea en ec] 39) := by rw [hE]; exact heap_alloc_new _ _
  have HE := toHidP hE
  have hp := C.lt
  have HK : Hid (∀ w', WX p rk w1 wE w' → w'.cell? ⟨w.heap.size, 0, none⟩ = some (.string kd) ∧ w'.cell? ⟨w.heap.size, 1, none⟩ = some (.string nm) ∧ w'.cell? ⟨w.heap.size, 2, none⟩ = some (.slice pa pn pc) ∧ w'.cell? ⟨w.heap.size, 3, none⟩ = some (.slice la ln lc) ∧ w'.cell? ⟨w.heap.size, 4, none⟩ = some (.slice ba bn bc) ∧ w'.cell? ⟨w.heap.size, 5, none⟩ = some (.slice ea en ec)) := fun w' h => let e := stmt_block (h.block hq (by omega) (by decide)); ⟨e.1, e.2.1, e.2.2.1, e.2.2.2.1, e.2.2.2.2.1, e.2.2.2.2.2.1⟩
  have HCA := toHidP hWE
  have HH := toHidP H
  have HSS := toHidP S
  have HCC := toHidP CC
  have HT := toHidP ht
  have HN := toHidP hN
  have HBR := toHidP hB
  have HER := toHidP hEl
  have hL1 : ¬ (ln : Int) < (termsN kd : Int) := by omega
  clear C hE hWE hq H S CC ht hN hrow hB hEl
  go_enter Tryz.func24, Tryz.ntmps24
  go_wp2_with fail
  go_quiet ((go_at_call 36; exact Calls.quiet_of_same (termsOf_any _ _)))
  rw [← HE.out]
  obtain ⟨wD, hwD⟩ : ∃ wD, wD = wE.drewN nq := ⟨_, rfl⟩
  have GD : Hid (WX p rk w1 wE wD) := by show WX _ _ _ _ _; rw [hwD]; exact (WX.start HCA.out.wt).drewN
  rw [← hwD]
  obtain ⟨x0, x1, x2, x3, x4, x5⟩ := HK.out wD GD.out
  clear hwD
  go_wp2_with fail
  refine (line_wt HH.out HT.out hl _ GD.out.wt).mono ?_
  rintro ev v0 ⟨rfl, g0⟩
  have G0 := toHidP (GD.out.trans g0)
  clear x0 x1 x2 x3 x4 x5
  obtain ⟨x0, x1, x2, x3, x4, x5⟩ := HK.out v0 G0.out
  clear g0
  go_wp2_with fail
  refine (put1 G0.out ⟨#[10]⟩ (by decide)).mono ?_
  rintro ev v1 ⟨rfl, g1⟩
  have G1 := toHidP g1
  clear x0 x1 x2 x3 x4 x5
  clear g1
  go_wp2_with fail
  go_end0
  exact ⟨rfl, HCA.out.trans G1.out⟩
end Go.Proofs.YtajkahckmhipkaaGreatDoor

/- Package tree's writer, whatever it is handed: statements, of every depth. -/
namespace Go.Proofs.YtajkahckmhipkaaGreatDoor
open Go.RowKit Go.Lib

set_option maxHeartbeats 4000000 in
set_option maxRecDepth 100000 in
theorem st_few {p : Nat} {rk : Value} {w1 : World} {kd nm : ByteArray} {pa : Option Addr} {pn pc : Nat} {la : Option Addr} {ln lc : Nat} {ba : Option Addr} {bn bc : Nat} {ea : Option Addr} {en ec : Nat} (hl : (ln : Int) < (termsN kd : Int)) (d : Nat) (w : World) (C : WT p rk w1 w) :
    Calls Tryz.prog 24 #[.pointer (some ⟨p, 0, none⟩), .agg #[.string kd, .string nm, .slice pa pn pc, .slice la ln lc, .slice ba bn bc, .slice ea en ec], .int .i64 (d : Int)] w fun ev w' => ev = .returned (.tuple #[]) ∧ WX p rk w1 w w' := by
  obtain ⟨wE, hE⟩ : ∃ wE, wE = w.alloc (.cells #[.string kd, .string nm, .slice pa pn pc, .slice la ln lc, .slice ba bn bc, .slice ea en ec] 39) := ⟨_, rfl⟩
  have hWE : WX p rk w1 w wE := by rw [hE]; exact (WX.start C).alloc _
  have HE := toHidP hE
  have HCA := toHidP hWE
  clear C hE hWE
  go_enter Tryz.func24, Tryz.ntmps24
  go_wp2_with fail
  go_quiet ((go_at_call 36; exact Calls.quiet_of_same (termsOf_any _ _)))
  rw [← HE.out]
  obtain ⟨wD, hwD⟩ : ∃ wD, wD = wE.drewN nq := ⟨_, rfl⟩
  have HD : Hid (WX p rk w1 w wD) := by show WX _ _ _ _ _; rw [hwD]; exact HCA.out.drewN
  rw [← hwD]
  obtain ⟨ta, tn, tc, tm, lost, _, d0, d1, d2, d3, df⟩ := HD.out.wt.cells
  have df3 := df 3
  have HL := toHidP (HD.out.lose true)
  clear df hwD
  go_wp2_with fail
  refine bodyPost_ret (results_none rfl _ _ _) rfl ?_
  exact ⟨rfl, HL.out⟩
theorem st_wt {p : Nat} {rk : Value} {w1 : World} {n k : Nat} (H : RW p rk w1 k) (S : SW p rk w1 k n) (CC : CH p rk w1 k (n + 1)) {kd nm : ByteArray} {pa : Option Addr} {pn pc : Nat} {la : Option Addr} {ln lc : Nat} {ba : Option Addr} {bn bc : Nat} {ea : Option Addr} {en ec : Nat} (ht : sv w1 p k (n + 1) kd nm pa pn pc la ln lc ba bn bc ea en ec) (d : Nat) (hd : d + (n + 1) ≤ 1152921504606846976) (w : World) (C : WT p rk w1 w) :
    Calls Tryz.prog 24 #[.pointer (some ⟨p, 0, none⟩), .agg #[.string kd, .string nm, .slice pa pn pc, .slice la ln lc, .slice ba bn bc, .slice ea en ec], .int .i64 (d : Int)] w fun ev w' => ev = .returned (.tuple #[]) ∧ WX p rk w1 w w' := by
  by_cases hl0 : (ln : Int) < (termsN kd : Int)
  · exact st_few hl0 d w C
  have hl : termsN kd ≤ ln := by omega
  by_cases n0 : (kd.toList == [105, 102]) = true
  · obtain rfl := str_is (beq_iff_eq.1 n0)
    have e : termsN ⟨#[105, 102]⟩ = 1 := by kernel_rfl
    exact stW_if H S CC ht (by omega) d hd w C
  rw [Bool.not_eq_true] at n0
  by_cases n1 : (kd.toList == [119, 104, 105, 108, 101]) = true
  · obtain rfl := str_is (beq_iff_eq.1 n1)
    have e : termsN ⟨#[119, 104, 105, 108, 101]⟩ = 1 := by kernel_rfl
    exact stW_while H S CC ht (by omega) d hd w C
  rw [Bool.not_eq_true] at n1
  by_cases n2 : (kd.toList == [102, 111, 114]) = true
  · obtain rfl := str_is (beq_iff_eq.1 n2)
    have e : termsN ⟨#[102, 111, 114]⟩ = 1 := by kernel_rfl
    exact stW_for H S CC ht (by omega) d hd w C
  rw [Bool.not_eq_true] at n2
  by_cases n3 : (kd.toList == [100, 101, 102]) = true
  · obtain rfl := str_is (beq_iff_eq.1 n3)
    have e : termsN ⟨#[100, 101, 102]⟩ = 0 := by kernel_rfl
    exact stW_def H S CC ht (by omega) d hd w C
  rw [Bool.not_eq_true] at n3
  by_cases n4 : (kd.toList == [116, 114, 121]) = true
  · obtain rfl := str_is (beq_iff_eq.1 n4)
    have e : termsN ⟨#[116, 114, 121]⟩ = 0 := by kernel_rfl
    exact stW_try H S CC ht (by omega) d hd w C
  rw [Bool.not_eq_true] at n4
  exact stW_other H S CC n0 n1 n2 n3 n4 ht hl d hd w C
set_option maxHeartbeats 4000000 in
set_option maxRecDepth 100000 in
theorem sts_step {p : Nat} {rk : Value} {w1 : World} {n k : Nat} (H : RW p rk w1 k) (S : SW p rk w1 k n) (CC : CH p rk w1 k (n + 1)) : SW p rk w1 k (n + 1) := by
  intro a m c h hm d hd w C
  have HC := toHidP C
  have HR := toHidP h
  have HST := toHidP (fun (kd nm : ByteArray) (pa : Option Addr) (pn pc : Nat) (la : Option Addr) (ln lc : Nat) (ba : Option Addr) (bn bc : Nat) (ea : Option Addr) (en ec : Nat) (ht : sv w1 p k (n + 1) kd nm pa pn pc la ln lc ba bn bc ea en ec) (w : World) (C : WT p rk w1 w) => st_wt H S CC ht d hd w C)
  clear C h H S CC
  go_enter Tryz.func13, Tryz.ntmps13
  go_wp2_with fail
  go_loopg [10] (m + 1) (fun gk v10 wr => ∃ i : Nat, gk = m + 1 - i ∧ i ≤ m ∧ v10 = .int .i64 (i : Int) ∧ WX p rk w1 w wr)
  case atStart => exact ⟨0, rfl, Nat.zero_le _, rfl, .start HC.out⟩
  case round =>
    obtain ⟨i, hgk, hi, rfl, hC⟩ := hrel
    have HG := toHidP hgk
    have HCR := toHidP hC
    by_cases hlt : i < m
    · have hI : (i : Int) < (m : Int) := by omega
      have hI0 : (0 : Int) ≤ (i : Int) := by omega
      obtain ⟨b, o, rfl, hb, kd, nm, pa, pn, pc, la, ln, lc, ba, bn, bc, ea, en, ec, k0, k1, k2, k3, k4, k5, ht⟩ := HR.out i hlt
      have HT := toHidP ht
      have y0 := hC.wt.old (a := ⟨b, o + i * 6, none⟩) hb k0
      have y1 := hC.wt.old (a := ⟨b, o + i * 6 + 1, none⟩) hb k1
      have y2 := hC.wt.old (a := ⟨b, o + i * 6 + 2, none⟩) hb k2
      have y3 := hC.wt.old (a := ⟨b, o + i * 6 + 3, none⟩) hb k3
      have y4 := hC.wt.old (a := ⟨b, o + i * 6 + 4, none⟩) hb k4
      have y5 := hC.wt.old (a := ⟨b, o + i * 6 + 5, none⟩) hb k5
      obtain ⟨ta, tn, tc, tm, lost, _, c0, c1, c2, c3, cf⟩ := hC.wt.cells
      have hbl := lt_of_cell y0
      have hpl := hC.wt.lt
      obtain ⟨wE, hE⟩ : ∃ wE, wE = wr.alloc (.cells #[.string kd, .string nm, .slice pa pn pc, .slice la ln lc, .slice ba bn bc, .slice ea en ec] 39) := ⟨_, rfl⟩
      have hWE : WX p rk w1 w wE := by rw [hE]; exact hC.alloc _
      have hq : wE.heap[wr.heap.size]? = some (.cells #[.string kd, .string nm, .slice pa pn pc, .slice la ln lc, .slice ba bn bc, .slice ea en ec] 39) := by rw [hE]; exact heap_alloc_new _ _
      have HK : Hid (∀ w', WX p rk w1 wE w' → w'.cell? ⟨wr.heap.size, 0, none⟩ = some (.string kd) ∧ w'.cell? ⟨wr.heap.size, 1, none⟩ = some (.string nm) ∧ w'.cell? ⟨wr.heap.size, 2, none⟩ = some (.slice pa pn pc) ∧ w'.cell? ⟨wr.heap.size, 3, none⟩ = some (.slice la ln lc) ∧ w'.cell? ⟨wr.heap.size, 4, none⟩ = some (.slice ba bn bc) ∧ w'.cell? ⟨wr.heap.size, 5, none⟩ = some (.slice ea en ec)) := fun w' h => let e := stmt_block (h.block hq (by omega) (by decide)); ⟨e.1, e.2.1, e.2.2.1, e.2.2.2.1, e.2.2.2.2.1, e.2.2.2.2.2.1⟩
      have HE := toHidP hE
      have HWE := toHidP hWE
      clear hgk hC cf k0 k1 k2 k3 k4 k5 ht hE hWE hq
      cases lost with
      | true =>
        go_wp2_with fail
        rw [← HE.out]
        refine bodyPost_ret (results_none rfl _ _ _) rfl ?_
        exact ⟨rfl, HWE.out⟩
      | false =>
        go_wp2_with fail
        rw [← HE.out]
        refine (begin_wt d (by omega) _ HWE.out.wt).mono ?_
        rintro ev v1 ⟨rfl, g1⟩
        have G1 := toHidP g1
        clear y0 y1 y2 y3 y4 y5 c0 c1 c2 c3
        obtain ⟨x0, x1, x2, x3, x4, x5⟩ := HK.out v1 g1
        clear g1
        go_wp2_with fail
        refine (HST.out _ _ _ _ _ _ _ _ _ _ _ _ _ _ HT.out v1 G1.out.wt).mono ?_
        rintro ev v2 ⟨rfl, g2⟩
        have G2 := toHidP (HWE.out.trans (G1.out.trans g2))
        clear g2 x0 x1 x2 x3 x4 x5
        go_wp2_with fail
        go_roundg (m + 1 - (i + 1))
        case measure => have := HG.out; omega
        case rel => exact ⟨i + 1, rfl, by omega, by go_num, G2.out⟩
    · obtain rfl : i = m := by omega
      clear hgk hC
      go_wp2_with fail
      go_end0
      exact ⟨rfl, HCR.out⟩
set_option maxHeartbeats 4000000 in
set_option maxRecDepth 100000 in
theorem sts_zero {p : Nat} {rk : Value} {w1 : World} {k : Nat} : SW p rk w1 k 0 := by
  intro a m c h _ d _ w C
  have hm : m = 0 := by
    by_cases h0 : 0 < m
    · obtain ⟨_, _, _, _, _, _, _, _, _, _, _, _, _, _, _, _, _, _, _, _, _, _, _, _, hx⟩ := h 0 h0
      exact hx.elim
    · omega
  subst hm
  have HC := toHidP (WX.start C)
  clear C h
  go_enter Tryz.func13, Tryz.ntmps13
  go_wp2_with fail
  refine wp_loop_rounds 1 ?_
  rw [rounds_succ]
  go_wp2
  go_end0
  exact ⟨rfl, HC.out⟩
/-- statements writes everything. -/
theorem sts_all {p : Nat} {rk : Value} {w1 : World} {k : Nat} (H : RW p rk w1 k) : ∀ n, SW p rk w1 k n ∧ CH p rk w1 k n
  | 0 => ⟨sts_zero, fun _ _ _ _ _ _ _ _ _ _ _ _ _ _ _ _ ht => ht.elim⟩
  | n + 1 => have h := sts_all H n
    have c := choice_step H h.1 h.2
    ⟨sts_step H h.1 c, c⟩
end Go.Proofs.YtajkahckmhipkaaGreatDoor

/- The library's strings.Builder and strconv.Itoa, FormatInt at this program: the shelf's layings, and their contracts. -/
namespace Go.Proofs.YtajkahckmhipkaaGreatDoor
open Go.Shelf Go.RowKit Go.Sort
def laysM173_ren : Go.Shelf.Ren := ⟨fun | 173 => 94 | 246 => 111 | 283 => 127 | 284 => 128 | 285 => 129 | 286 => 130 | 129 => 146 | 317 => 145 | 318 => 147 | 319 => 148 | 320 => 149 | 337 => 153 | 338 => 154 | n => n, fun | 2 => 2 | 3 => 3 | 9 => 9 | 4 => 4 | 171 => 140 | 0 => 0 | 53 => 129 | 37 => 48 | 5 => 5 | 173 => 143 | 212 => 157 | 51 => 158 | 20 => 20 | 213 => 159 | 46 => 132 | 232 => 169 | 233 => 170 | n => n, fun | 17 => 7 | 18 => 9 | 19 => 10 | n => n⟩
theorem laysM173 : Go.Proofs.LaysM.n173 Tryz.prog laysM173_ren := {
  mixed := by kernel_rfl
  f129 := Tryz.func146.trans (congrArg some (by kernel_rfl))
  f173 := Tryz.func94.trans (congrArg some (by kernel_rfl))
  f246 := Tryz.func111.trans (congrArg some (by kernel_rfl))
  f283 := Tryz.func127.trans (congrArg some (by kernel_rfl))
  f284 := Tryz.func128.trans (congrArg some (by kernel_rfl))
  f285 := Tryz.func129.trans (congrArg some (by kernel_rfl))
  f286 := Tryz.func130.trans (congrArg some (by kernel_rfl))
  f317 := Tryz.func145.trans (congrArg some (by kernel_rfl))
  f318 := Tryz.func147.trans (congrArg some (by kernel_rfl))
  f319 := Tryz.func148.trans (congrArg some (by kernel_rfl))
  f320 := Tryz.func149.trans (congrArg some (by kernel_rfl))
  f337 := Tryz.func153.trans (congrArg some (by kernel_rfl))
  f338 := Tryz.func154.trans (congrArg some (by kernel_rfl))
  t0 := Tryz.underlying0
  a0 := Tryz.isAgg0
  z0 := Tryz.sizeOf0
  v0 := Tryz.zeroValue0
  t2 := Tryz.underlying2
  a2 := Tryz.isAgg2
  z2 := Tryz.sizeOf2
  v2 := Tryz.zeroValue2
  t3 := Tryz.underlying3
  a3 := Tryz.isAgg3
  z3 := Tryz.sizeOf3
  v3 := Tryz.zeroValue3
  t4 := Tryz.underlying4
  a4 := Tryz.isAgg4
  z4 := Tryz.sizeOf4
  v4 := Tryz.zeroValue4
  t5 := Tryz.underlying5
  a5 := Tryz.isAgg5
  z5 := Tryz.sizeOf5
  v5 := Tryz.zeroValue5
  t9 := Tryz.underlying9
  a9 := Tryz.isAgg9
  z9 := Tryz.sizeOf9
  v9 := Tryz.zeroValue9
  t20 := Tryz.underlying20
  a20 := Tryz.isAgg20
  z20 := Tryz.sizeOf20
  v20 := Tryz.zeroValue20
  t37 := Tryz.underlying48
  a37 := Tryz.isAgg48
  z37 := Tryz.sizeOf48
  v37 := Tryz.zeroValue48
  t46 := Tryz.underlying132
  a46 := Tryz.isAgg132
  z46 := Tryz.sizeOf132
  v46 := Tryz.zeroValue132
  t51 := Tryz.underlying158
  a51 := Tryz.isAgg158
  z51 := Tryz.sizeOf158
  v51 := Tryz.zeroValue158
  t53 := Tryz.underlying129
  a53 := Tryz.isAgg129
  z53 := Tryz.sizeOf129
  v53 := Tryz.zeroValue129
  t171 := Tryz.underlying140
  a171 := Tryz.isAgg140
  z171 := Tryz.sizeOf140
  v171 := Tryz.zeroValue140
  t173 := Tryz.underlying143
  a173 := Tryz.isAgg143
  z173 := Tryz.sizeOf143
  v173 := Tryz.zeroValue143
  t212 := Tryz.underlying157
  a212 := Tryz.isAgg157
  z212 := Tryz.sizeOf157
  v212 := Tryz.zeroValue157
  t213 := Tryz.underlying159
  a213 := Tryz.isAgg159
  z213 := Tryz.sizeOf159
  t232 := Tryz.underlying169
  a232 := Tryz.isAgg169
  z232 := Tryz.sizeOf169
  v232 := Tryz.zeroValue169
  t233 := Tryz.underlying170
  a233 := Tryz.isAgg170
  z233 := Tryz.sizeOf170
  v233 := Tryz.zeroValue170
  g17 := by kernel_rfl
  g18 := by kernel_rfl
  g19 := by kernel_rfl
  i0 := by kernel_rfl
  i2 := by kernel_rfl
  i3 := by kernel_rfl
  i4 := by kernel_rfl
  i5 := by kernel_rfl
  i9 := by kernel_rfl
  i20 := by kernel_rfl
  i37 := by kernel_rfl
  i46 := by kernel_rfl
  i51 := by kernel_rfl
  i53 := by kernel_rfl
  i171 := by kernel_rfl
  i173 := by kernel_rfl
  i212 := by kernel_rfl
  i232 := by kernel_rfl
  i233 := by kernel_rfl
  m17 := by kernel_rfl
  m18 := by kernel_rfl
  m19 := by kernel_rfl }
def bren : Go.Shelf.Ren := ⟨fun | 166 => 132 | 167 => 131 | 169 => 133 | 240 => 150 | 276 => 155 | n => n, fun | 0 => 0 | 3 => 3 | 4 => 4 | 5 => 5 | 9 => 9 | 20 => 20 | 37 => 48 | 70 => 145 | 72 => 147 | 75 => 26 | 80 => 103 | 127 => 162 | 164 => 167 | n => n, fun | n => n⟩
theorem blays166 : Go.Proofs.Lays.n166 Tryz.prog bren := {
  mixed := by kernel_rfl
  f166 := Tryz.func132.trans (congrArg some (by kernel_rfl))
  f240 := Tryz.func150.trans (congrArg some (by kernel_rfl))
  f276 := Tryz.func155.trans (congrArg some (by kernel_rfl))
  t0 := Tryz.underlying0
  a0 := Tryz.isAgg0
  z0 := Tryz.sizeOf0
  v0 := Tryz.zeroValue0
  t3 := Tryz.underlying3
  a3 := Tryz.isAgg3
  z3 := Tryz.sizeOf3
  v3 := Tryz.zeroValue3
  t4 := Tryz.underlying4
  a4 := Tryz.isAgg4
  z4 := Tryz.sizeOf4
  v4 := Tryz.zeroValue4
  t9 := Tryz.underlying9
  a9 := Tryz.isAgg9
  z9 := Tryz.sizeOf9
  v9 := Tryz.zeroValue9
  t20 := Tryz.underlying20
  a20 := Tryz.isAgg20
  z20 := Tryz.sizeOf20
  v20 := Tryz.zeroValue20
  t37 := Tryz.underlying48
  a37 := Tryz.isAgg48
  z37 := Tryz.sizeOf48
  v37 := Tryz.zeroValue48
  t70 := Tryz.underlying145
  a70 := Tryz.isAgg145
  z70 := Tryz.sizeOf145
  v70 := Tryz.zeroValue145
  t72 := Tryz.underlying147
  a72 := Tryz.isAgg147
  z72 := Tryz.sizeOf147
  v72 := Tryz.zeroValue147
  t75 := Tryz.underlying26
  a75 := Tryz.isAgg26
  z75 := Tryz.sizeOf26
  v75 := Tryz.zeroValue26
  t164 := Tryz.underlying167
  a164 := Tryz.isAgg167
  z164 := Tryz.sizeOf167
  v164 := Tryz.zeroValue167 }
theorem blays167 : Go.Proofs.Lays.n167 Tryz.prog bren := {
  mixed := by kernel_rfl
  f167 := Tryz.func131.trans (congrArg some (by kernel_rfl))
  f240 := Tryz.func150.trans (congrArg some (by kernel_rfl))
  f276 := Tryz.func155.trans (congrArg some (by kernel_rfl))
  t0 := Tryz.underlying0
  a0 := Tryz.isAgg0
  z0 := Tryz.sizeOf0
  v0 := Tryz.zeroValue0
  t4 := Tryz.underlying4
  a4 := Tryz.isAgg4
  z4 := Tryz.sizeOf4
  v4 := Tryz.zeroValue4
  t5 := Tryz.underlying5
  a5 := Tryz.isAgg5
  z5 := Tryz.sizeOf5
  v5 := Tryz.zeroValue5
  t9 := Tryz.underlying9
  a9 := Tryz.isAgg9
  z9 := Tryz.sizeOf9
  v9 := Tryz.zeroValue9
  t20 := Tryz.underlying20
  a20 := Tryz.isAgg20
  z20 := Tryz.sizeOf20
  v20 := Tryz.zeroValue20
  t37 := Tryz.underlying48
  a37 := Tryz.isAgg48
  z37 := Tryz.sizeOf48
  v37 := Tryz.zeroValue48
  t70 := Tryz.underlying145
  a70 := Tryz.isAgg145
  z70 := Tryz.sizeOf145
  v70 := Tryz.zeroValue145
  t72 := Tryz.underlying147
  a72 := Tryz.isAgg147
  z72 := Tryz.sizeOf147
  v72 := Tryz.zeroValue147
  t75 := Tryz.underlying26
  a75 := Tryz.isAgg26
  z75 := Tryz.sizeOf26
  v75 := Tryz.zeroValue26
  t164 := Tryz.underlying167
  a164 := Tryz.isAgg167
  z164 := Tryz.sizeOf167
  v164 := Tryz.zeroValue167 }
theorem blays169 : Go.Proofs.Lays.n169 Tryz.prog bren := {
  mixed := by kernel_rfl
  f169 := Tryz.func133.trans (congrArg some (by kernel_rfl))
  t0 := Tryz.underlying0
  a0 := Tryz.isAgg0
  z0 := Tryz.sizeOf0
  v0 := Tryz.zeroValue0
  t3 := Tryz.underlying3
  a3 := Tryz.isAgg3
  z3 := Tryz.sizeOf3
  v3 := Tryz.zeroValue3
  t9 := Tryz.underlying9
  a9 := Tryz.isAgg9
  z9 := Tryz.sizeOf9
  v9 := Tryz.zeroValue9
  t37 := Tryz.underlying48
  a37 := Tryz.isAgg48
  z37 := Tryz.sizeOf48
  v37 := Tryz.zeroValue48
  t70 := Tryz.underlying145
  a70 := Tryz.isAgg145
  z70 := Tryz.sizeOf145
  v70 := Tryz.zeroValue145
  t72 := Tryz.underlying147
  a72 := Tryz.isAgg147
  z72 := Tryz.sizeOf147
  v72 := Tryz.zeroValue147
  t127 := Tryz.underlying162
  a127 := Tryz.isAgg162
  z127 := Tryz.sizeOf162
  v127 := Tryz.zeroValue162 }
theorem bextra : Builder.Extra Tryz.prog bren := {
  sizeBuilder := by kernel_rfl
  liesBuilder := by kernel_rfl
  t5 := Tryz.underlying5
  a5 := Tryz.isAgg5
  z5 := Tryz.sizeOf5
  v5 := Tryz.zeroValue5
  infoByte := by kernel_rfl
  cellsByte := by kernel_rfl
  sizeByte := by kernel_rfl
  neB5 := by decide }

theorem wByte (B b : Nat) (bs : List Value) (c : Int) (w : World) (h : Lib.IsBuilderF 147 5 B b bs w) (hlen : bs.length + 1 ≤ 140737488355328) (hBw : B ≤ w.heap.size) :
    Calls Tryz.prog 131 #[.pointer (some ⟨b, 0, none⟩), .int .u8 c] w fun e w' => e = .returned .nilIface ∧ Lib.IsBuilderF 147 5 B b (bs ++ [.int .u8 c]) w' ∧ Below B w w' ∧ Lib.OthersKept 5 (some b) w w' :=
  (Any.Builder_WriteByte_k blays167 bextra B b bs c w h hlen hBw).mono fun _ _ ⟨h1, h2, h3, h4⟩ => ⟨h1, .inr h2, h3, h4⟩
theorem wString (B b : Nat) (bs : List Value) (s : ByteArray) (w : World) (h : Lib.IsBuilderF 147 5 B b bs w) (hlen : bs.length + s.size ≤ 140737488355328) (hBw : B ≤ w.heap.size) :
    Calls Tryz.prog 132 #[.pointer (some ⟨b, 0, none⟩), .string s] w fun e w' => e = .returned (.tuple #[.int .i64 s.size, .nilIface]) ∧ Lib.IsBuilderF 147 5 B b (bs ++ Lib.strCells s) w' ∧ Below B w w' ∧ Lib.OthersKept 5 (some b) w w' :=
  (Any.Builder_WriteString_k blays166 bextra B b bs s w h hlen hBw).mono fun _ _ ⟨h1, h2, h3, h4⟩ => ⟨h1, .inr h2, h3, h4⟩
theorem bString (B b : Nat) (l : List UInt8) (w : World) (h : Lib.IsBuilderF 147 5 B b (Lib.byteCells l) w) (hBw : B ≤ w.heap.size) :
    Calls Tryz.prog 133 #[.pointer (some ⟨b, 0, none⟩)] w fun e w' => e = .returned (.string ⟨l.toArray⟩) ∧ Below B w w' := (Any.Builder_String_any_k blays169 bextra B b l w h hBw).mono fun _ _ ⟨h1, _, h3, _⟩ => ⟨h1, h3⟩
theorem format_any (n : Int) (h0 : -9223372036854775808 ≤ n) (h1 : n ≤ 9223372036854775807) (w : World) (htab : Lib.TabIs Tryz.prog w "internal/strconv.uint64pow10" .u64 Lib.pow10Tab) :
    Calls Tryz.prog 94 #[.int .i64 n, .int .i64 10] w fun e w' => e = .returned (.string ⟨(Lib.itoa n).toArray⟩) ∧ ∃ k os, w' = grow (w.drewN k) os := Any.strconv_FormatInt_10 laysM173 n h0 h1 w htab
end Go.Proofs.YtajkahckmhipkaaGreatDoor
