/- The walk of the law Names: coded, SameInts, and the law itself. -/
import Derived.Test.YtngiehnokhcifaaDoorErrLaid
import Derived.Deep.RegionWith
import Derived.Deep.QuietTactic
import Derived.BigQuiet
import Derived.WalkSmall
import Derived.Deep.RegionHeld3
import Derived.Deep.DrawnRows
import Derived.Laws.Concat
namespace Go.Proofs.YtngiehnokhcifaaDoor
open Go.RowKit Go.Extern.Stop Go.Stop Go.Extern

/-- coded, where plain.Code tells the number c and no place. -/
theorem coded_yes (v : Value) (c : Int) (w : World) (h : Calls Tryd.prog 9 #[v] w fun ev w' => ev = .returned (.tuple #[.int .i64 c, .int .i64 (-1)]) ∧ Below w.heap.size w w') :
    Calls Tryd.prog 10 #[v, .int .i64 c] w fun ev w' => ev = .returned (.bool true) ∧ Below w.heap.size w w' := by
  have H : Hid (Calls Tryd.prog 9 #[v] w fun ev w' => ev = .returned (.tuple #[.int .i64 c, .int .i64 (-1)]) ∧ Below w.heap.size w w') := h
  clear h
  go_enter Tryd.func10, Tryd.ntmps10
  go_wp2_with fail
  refine H.out.mono ?_
  rintro ev w2 ⟨rfl, hb⟩
  go_wp2_with fail
  go_ret
  exact ⟨by simp, hb⟩

set_option maxHeartbeats 400000 in
/-- SameInts of two slices that hold the same numbers. -/
theorem sameInts_yes (b1 b2 n c1 c2 : Nat) (z : Nat → Int) (w : World) (hn : n ≤ 1000) (h1 : ∀ i, i < n → w.cell? ⟨b1, i, none⟩ = some (.int .i64 (z i))) (h2 : ∀ i, i < n → w.cell? ⟨b2, i, none⟩ = some (.int .i64 (z i))) :
    Calls Tryd.prog 8 #[.slice (some ⟨b1, 0, none⟩) n c1, .slice (some ⟨b2, 0, none⟩) n c2] w fun ev w' => ev = .returned (.bool true) ∧ ∃ q, w' = w.drewN q := by
  go_enter Tryd.func8, Tryd.ntmps8
  go_wp2
  go_loopw [5] (fun i wr => ∃ k q : Nat, k ≤ n ∧ i = .int .i64 k ∧ wr = w.drewN q) (fun i _ => n - (intOf i).toNat)
  case atStart => exact ⟨0, 0, Nat.zero_le _, rfl, rfl⟩
  case round =>
    obtain ⟨k, q, hk, rfl, rfl⟩ := hrel
    by_cases hlt : k < n
    · have e1 := h1 k hlt
      have e2 := h2 k hlt
      have hI : (k : Int) < (n : Int) := by omega
      clear h1 h2
      go_wp2
      go_quiet (fail)
      go_wp2
      exact ⟨⟨k + 1, q + nq, by omega, by go_num, rfl⟩, by simp [intOf]; omega⟩
    · go_wp2
      go_ret
      exact ⟨rfl, q, rfl⟩

def tailText (i : Nat) : ByteArray := ⟨(sentTail i).toArray⟩
theorem tail_len (k : Nat) : (sentTail k).length ≤ 5 := by
  iterate 6 (rcases k with _ | k; · decide)
  exact (show ([110, 111, 110, 101] : List UInt8).length ≤ 5 by decide)
theorem addTail {k : Nat} (w : World) : (Op.stringOp .add ⟨#[110, 117, 114, 115, 101, 114, 121, 112, 121, 58, 32]⟩ (tailText k)).run Tryd.prog w = .ok (.string (sentText k)) w := by
  have h := tail_len k
  have hz : (tailText k).size ≤ 5 := by simpa [tailText, ByteArray.size] using h
  have hp : (⟨#[110, 117, 114, 115, 101, 114, 121, 112, 121, 58, 32]⟩ : ByteArray).size = 11 := rfl
  rw [run_string_add w _ _ (by rw [hp]; decide) (by omega)]
  congr 1

def ints17 : List Int := [6000, 16, 12, 2305843009213693952, 100000, 60, 20, 2000, 20000, 50, 20000, 65536, 4096, 5000, 400, 40, 16]
def ints7 : List Int := [0, 1, 2, 3, 0, 1, 2]
def cells17 : Array Value := #[.int .i64 6000, .int .i64 16, .int .i64 12, .int .i64 2305843009213693952, .int .i64 100000, .int .i64 60, .int .i64 20, .int .i64 2000, .int .i64 20000, .int .i64 50, .int .i64 20000, .int .i64 65536, .int .i64 4096, .int .i64 5000, .int .i64 400, .int .i64 40, .int .i64 16]
def cells7 : Array Value := #[.int .i64 0, .int .i64 1, .int .i64 2, .int .i64 3, .int .i64 0, .int .i64 1, .int .i64 2]
theorem at17 (i : Nat) (hi : i < 17) : cells17[i]? = some (.int .i64 (ints17.getD i 0)) := by
  iterate 17 (rcases i with _ | i; · rfl)
  omega
theorem at7 (i : Nat) (hi : i < 7) : cells7[i]? = some (.int .i64 (ints7.getD i 0)) := by
  iterate 7 (rcases i with _ | i; · rfl)
  omega
def sentCells (a : Nat → Addr) : Array Value := #[.iface 52 (.pointer (some (a 0))), .iface 52 (.pointer (some (a 1))), .iface 52 (.pointer (some (a 2))), .iface 52 (.pointer (some (a 3))), .iface 52 (.pointer (some (a 4))), .iface 52 (.pointer (some (a 5))), .iface 52 (.pointer (some (a 6)))]
def tailCells : Array Value := #[.string ⟨#[116, 101, 120, 116]⟩, .string ⟨#[98, 111, 117, 110, 100]⟩, .string ⟨#[115, 104, 97, 112, 101]⟩, .string ⟨#[110, 97, 109, 101]⟩, .string ⟨#[112, 108, 97, 99, 101]⟩, .string ⟨#[102, 117, 108, 108]⟩, .string ⟨#[110, 111, 110, 101]⟩]
theorem atSent (a : Nat → Addr) (i : Nat) (hi : i < 7) : (sentCells a)[i]? = some (.iface 52 (.pointer (some (a i)))) := by
  iterate 7 (rcases i with _ | i; · rfl)
  omega
theorem atTail (i : Nat) (hi : i < 7) : tailCells[i]? = some (.string (tailText i)) := by
  iterate 7 (rcases i with _ | i; · rfl)
  omega

/-- The first test: the bounds. Three slices of numbers lie behind what was there. -/
theorem same17 (w : World) : Calls Tryd.prog 8 #[.slice (some ⟨w.heap.size, 0, none⟩) 17 17, .slice (some ⟨w.heap.size + 1, 0, none⟩) 17 17] (((w.alloc (.cells cells17 3)).alloc (.cells cells17 3)).alloc (.cells cells7 3)) fun ev w' => ev = .returned (.bool true) ∧ Below w.heap.size w w' ∧ w.heap.size + 1 + 1 < w'.heap.size ∧ ∀ i, i < 7 → w'.cell? ⟨w.heap.size + 1 + 1, i, none⟩ = some (.int .i64 (ints7.getD i 0)) := by
  refine (sameInts_yes w.heap.size (w.heap.size + 1) 17 17 17 (fun i => ints17.getD i 0) _ (by decide) (fun i hi => ?_) (fun i hi => ?_)).mono ?_
  · rw [World.cell?_alloc_past _ _ _ (by simp; omega), World.cell?_alloc_past _ _ _ (by simp), World.cell?_alloc_at _ _ _ _ rfl]; exact at17 i hi
  · rw [World.cell?_alloc_past _ _ _ (by simp), World.cell?_alloc_at _ _ _ _ (by simp)]; exact at17 i hi
  · rintro ev w' ⟨h1, q, rfl⟩
    refine ⟨h1, ?_, by simp, fun i hi => ?_⟩
    · exact below_drewN ((((Below.refl _ _).alloc (Nat.le_refl _) _).alloc (by simp) _).alloc (by simp; omega) _) q
    · rw [World.cell?_drewN, World.cell?_alloc_at _ _ _ _ (by simp)]; exact at7 i hi

/-- The second test: the kinds of words. -/
theorem same7 (w w1 : World) (hb : Below w.heap.size w w1) (hz : w.heap.size + 1 + 1 < w1.heap.size) (hc : ∀ i, i < 7 → w1.cell? ⟨w.heap.size + 1 + 1, i, none⟩ = some (.int .i64 (ints7.getD i 0))) :
    Calls Tryd.prog 8 #[.slice (some ⟨w.heap.size + 1 + 1, 0, none⟩) 7 7, .slice (some ⟨w1.heap.size, 0, none⟩) 7 7] (w1.alloc (.cells cells7 3)) fun ev w' => ev = .returned (.bool true) ∧ Below w.heap.size w w' := by
  refine (sameInts_yes (w.heap.size + 1 + 1) w1.heap.size 7 7 7 (fun i => ints7.getD i 0) _ (by decide) (fun i hi => ?_) (fun i hi => ?_)).mono ?_
  · rw [World.cell?_alloc_past _ _ _ hz]; exact hc i hi
  · rw [World.cell?_alloc_at _ _ _ _ rfl]; exact at7 i hi
  · rintro ev w' ⟨h1, q, rfl⟩
    exact ⟨h1, below_drewN (hb.alloc hb.size _) q⟩

/-- errors.New: a new error. -/
theorem new_any (s : ByteArray) (w : World) : Calls Tryd.prog 11 #[.string s] w fun ev w' => ev = .returned (.iface 52 (.pointer (some ⟨w.heap.size, 0, none⟩))) ∧ w' = w.alloc (.cells #[.string s] 54) := by
  go_enter Tryd.func11, Tryd.ntmps11
  go_wp2
  go_ret
  exact ⟨rfl, rfl⟩
theorem coded_sent (a : Nat → Addr) (k : Nat) (hk : k < 7) (w : World) (E : Errs a w) :
    Calls Tryd.prog 10 #[.iface 52 (.pointer (some (a k))), .int .i64 ((k : Int) + 1)] w fun ev w' => ev = .returned (.bool true) ∧ Below w.heap.size w w' :=
  coded_yes _ _ w (code_sent a k hk w E)
theorem nilSent (x : Addr) (w : World) : (nilAhead 297 52 (.pointer (some x)) "Error").run Tryd.prog w = .ok (some false) w := by kernel_rfl
theorem mSent (x : Addr) (w : World) : (Go.method 297 52 (.pointer (some x)) "Error").run Tryd.prog w = .ok (118, .pointer (some x)) w := by kernel_rfl
/-- The text of an error of errors.New's make. -/
theorem sErr (x : Addr) (s : ByteArray) (w : World) (h : w.cell? x = some (.string s)) :
    Calls Tryd.prog 118 #[.pointer (some x)] w fun ev w' => ev = .returned (.string s) ∧ w' = w := by
  go_enter Tryd.func118, Tryd.ntmps118
  go_wp2
  go_ret
  exact ⟨rfl, rfl⟩

set_option maxHeartbeats 4000000 in
set_option maxRecDepth 100000 in
theorem names_any (a : Nat → Addr) (w : World) (E : Errs a w) (hS : ∀ i, i < 7 → w.cell? (a i) = some (.string (sentText i))) :
    Calls Tryd.prog 3 #[] w fun ev w' => ev = .returned (.bool true) ∧ Below w.heap.size w w' := by
  go_enter Tryd.func3, Tryd.ntmps3
  go_wp2_with fail
  refine (same17 w).mono ?_
  rintro ev w1 ⟨rfl, hb1, hz1, hc1⟩
  have HC : Hid (∀ i, i < 7 → w1.cell? ⟨w.heap.size + 1 + 1, i, none⟩ = some (.int .i64 (ints7.getD i 0))) := hc1
  clear hc1
  go_wp2_with fail
  refine (same7 w w1 hb1 hz1 HC.out).mono ?_
  rintro ev w2 ⟨rfl, hb2⟩
  clear HC hb1 hz1
  have E2 := E.below hb2
  have k0 := E2.c0
  have k1 := E2.c1
  have k2 := E2.c2
  have k3 := E2.c3
  have k4 := E2.c4
  have k5 := E2.c5
  have k6 := E2.c6
  go_wp2_with fail
  clear k0 k1 k2 k3 k4 k5 k6
  go_loopw [6] (fun i wr => ∃ k : Nat, k ≤ 7 ∧ i = .int .i64 k ∧ Below (w2.heap.size + 1 + 1) ((w2.alloc (.cells (sentCells a) 25)).alloc (.cells tailCells 9)) wr) (fun i _ => 7 - (intOf i).toNat)
  case atStart => exact ⟨0, by decide, rfl, Below.refl _ _⟩
  case round =>
    obtain ⟨k, hk, rfl, hbr⟩ := hrel
    have hbw : Below w.heap.size w wr := ((hb2.alloc hb2.size _).alloc (by have := hb2.size; simp; omega) _).trans (hbr.mono (by have := hb2.size; omega))
    have Er := E.below hbw
    have hsz : w2.heap.size + 1 + 1 ≤ wr.heap.size := by have := hbr.size; simpa using this
    by_cases hlt : k < 7
    · have e1 : wr.cell? ⟨w2.heap.size, k, none⟩ = some (.iface 52 (.pointer (some (a k)))) := by
        rw [hbr.cell (p := ⟨w2.heap.size, k, none⟩) (by simp; omega), World.cell?_alloc_past _ _ _ (by simp), World.cell?_alloc_at _ _ _ _ rfl]; exact atSent a k hlt
      have e2 : wr.cell? ⟨w2.heap.size + 1, k, none⟩ = some (.string (tailText k)) := by
        rw [hbr.cell (p := ⟨w2.heap.size + 1, k, none⟩) (by simp), World.cell?_alloc_at _ _ _ _ (by simp)]; exact atTail k hlt
      have HS : Hid (wr.cell? (a k) = some (.string (sentText k))) := (hbw.cell (p := a k) (lt_of_cell (hS k hlt))).trans (hS k hlt)
      have hI : (k : Int) < 7 := by omega
      have hI0 : (0 : Int) ≤ (k : Int) := by omega
      clear hS
      go_wp2_with fail
      refine (code_fault a k hlt wr.heap.size 0 7 _ (Er.below ((Below.refl _ _).alloc (Nat.le_refl _) _)) (by simp) (by simp)).mono ?_
      rintro ev w3 ⟨rfl, hb3⟩
      have hb3' : Below wr.heap.size wr w3 := ((Below.refl _ _).alloc (Nat.le_refl _) _).trans (hb3.mono (by simp))
      have f1 : w3.cell? ⟨w2.heap.size, k, none⟩ = some (.iface 52 (.pointer (some (a k)))) := (hb3'.cell (p := ⟨w2.heap.size, k, none⟩) (lt_of_cell e1)).trans e1
      have f2 : w3.cell? ⟨w2.heap.size + 1, k, none⟩ = some (.string (tailText k)) := (hb3'.cell (p := ⟨w2.heap.size + 1, k, none⟩) (lt_of_cell e2)).trans e2
      have FS : Hid (w3.cell? (a k) = some (.string (sentText k))) := (hb3'.cell (p := a k) (lt_of_cell HS.out)).trans HS.out
      have n1 := nilSent
      have m1 := mSent
      clear e1 e2
      have E3 := Er.below hb3'
      have hadd := addTail (k := k)
      have hwr : IntKind.i64.wrap ((k : Int) + 1) = (k : Int) + 1 := wrap_small _ (by omega) (by omega)
      go_wp2_with fail
      go_region_held3 (fun w' => w'.cell? ⟨w2.heap.size, k, none⟩ = some (.iface 52 (.pointer (some (a k)))) ∧ w'.cell? ⟨w2.heap.size + 1, k, none⟩ = some (.string (tailText k))) (first | go_keep | exact ⟨(hb4.cell (p := ⟨w2.heap.size, k, none⟩) (lt_of_cell f1)).trans f1, (hb4.cell (p := ⟨w2.heap.size + 1, k, none⟩) (lt_of_cell f2)).trans f2⟩) (first
        | (go_at_call 118; refine (sErr (a k) (sentText k) _ ?_).mono ?_; exact FS.out; rintro ev w' ⟨rfl, rfl⟩)
        | (go_at_call 10; refine (coded_sent a k hlt _ ?_).mono ?_; exact E3.below ((Below.refl _ _).drew); rintro ev w4 ⟨rfl, hb4⟩))
      go_wp2
      exact ⟨⟨k + 1, by omega, by go_num, (hbr.trans (hb3'.mono hsz)).trans ((Below.drew (Below.refl _ _)).trans (hb4.mono (by have := hb3'.size; simp; omega)))⟩, by simp [intOf]; omega⟩
    · have hnewNe : ∀ i, i < 7 → (⟨wr.heap.size, 0, none⟩ : Addr) ≠ a i := fun i hi he => by
        obtain ⟨c, t, h⟩ := Er.b i hi
        have := lt_of_heap h
        rw [← he] at this
        simp at this
      have HN : Hid (∀ i, i < 7 → (⟨wr.heap.size, 0, none⟩ : Addr) ≠ a i) := hnewNe
      clear hnewNe
      go_wp2_with fail
      refine (new_any _ _).mono ?_
      rintro ev w3 ⟨rfl, rfl⟩
      go_wp2_with fail
      refine (code_other a _ _ _ _ (Er.below ((Below.refl _ _).alloc (Nat.le_refl _) _)) (heap_alloc_new _ _) HN.out).mono ?_
      rintro ev w4 ⟨rfl, hb4⟩
      have hbw4 : Below w.heap.size w w4 := (hbw.alloc hbw.size _).trans (hb4.mono (by have := hbw.size; simp; omega))
      go_wp2_with fail
      refine (coded_yes .nilIface 0 w4 ((code_nil w4).mono ?_)).mono ?_
      · rintro ev w5 ⟨h1, h2⟩
        subst h2
        exact ⟨h1, Below.refl _ _⟩
      rintro ev w5 ⟨rfl, hb5⟩
      go_wp2_with fail
      go_ret
      exact ⟨rfl, hbw4.trans (hb5.mono hbw4.size)⟩
end Go.Proofs.YtngiehnokhcifaaDoor
