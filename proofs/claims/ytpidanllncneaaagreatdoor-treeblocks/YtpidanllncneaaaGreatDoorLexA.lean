/- Package lex: the small functions of bytes, the pass over wanted bytes, by contracts. -/
import Derived.Test.YtpidanllncneaaaGreatDoorErrCode
import Derived.Deep.RegionWith
import Derived.Deep.QuietTactic
import Derived.BigQuiet
import Derived.WalkSmall
import Derived.WalkSpells
import Derived.Deep.LoopGhost
namespace Go.Proofs.YtpidanllncneaaaGreatDoor
open Go.RowKit

/-- The fault of package lex: a new one, at the place at_. -/
theorem none_any (at_ : Int) (a0 : Addr) (w : World) (h : w.cell? ⟨2, 0, none⟩ = some (.iface 177 (.pointer (some a0)))) :
    Calls Tryz.prog 33 #[.int .i64 at_] w fun ev w' => ev = .returned (.pointer (some ⟨w.heap.size, 0, none⟩)) ∧ w' = w.alloc (.cells #[.int .i64 at_, .iface 177 (.pointer (some a0))] 67) := by
  go_enter Tryz.func33, Tryz.ntmps33
  go_wp2
  go_ret
  exact ⟨rfl, rfl⟩

def smallB (b : Int) : Bool := (decide (97 ≤ b) && decide (b ≤ 122)) || b == 95
def capitalB (b : Int) : Bool := decide (65 ≤ b) && decide (b ≤ 90)
def digitB (b : Int) : Bool := decide (48 ≤ b) && decide (b ≤ 57)
def nameB (b : Int) : Bool := smallB b || digitB b
def blankB (b : Int) : Bool := b == 32
def lineB (b : Int) : Bool := b != 10

theorem ret_bool {x y : Bool} (h : x = y) : Ending.returned (.bool x) = .returned (.bool y) := by rw [h]

theorem small_any (b : Int) (w : World) : Calls Tryz.prog 59 #[.int .u8 b] w fun ev w' => ev = .returned (.bool (smallB b)) ∧ w' = w := by
  go_enter Tryz.func59, Tryz.ntmps59
  go_wp2
  all_goals go_ret
  all_goals refine ⟨ret_bool ?_, rfl⟩
  all_goals rw [Bool.eq_iff_iff]
  all_goals simp [smallB]
  all_goals omega
theorem capital_any (b : Int) (w : World) : Calls Tryz.prog 60 #[.int .u8 b] w fun ev w' => ev = .returned (.bool (capitalB b)) ∧ w' = w := by
  go_enter Tryz.func60, Tryz.ntmps60
  go_wp2
  all_goals go_ret
  all_goals refine ⟨ret_bool ?_, rfl⟩
  all_goals rw [Bool.eq_iff_iff]
  all_goals simp [capitalB]
  all_goals omega
theorem digit_any (b : Int) (w : World) : Calls Tryz.prog 62 #[.int .u8 b] w fun ev w' => ev = .returned (.bool (digitB b)) ∧ w' = w := by
  go_enter Tryz.func62, Tryz.ntmps62
  go_wp2
  all_goals go_ret
  all_goals refine ⟨ret_bool ?_, rfl⟩
  all_goals rw [Bool.eq_iff_iff]
  all_goals simp [digitB]
  all_goals omega
theorem blank_any (b : Int) (w : World) : Calls Tryz.prog 57 #[.int .u8 b] w fun ev w' => ev = .returned (.bool (blankB b)) ∧ w' = w := by
  go_enter Tryz.func57, Tryz.ntmps57
  go_wp2
  go_ret
  exact ⟨rfl, rfl⟩
theorem comment_any (b : Int) (w : World) : Calls Tryz.prog 58 #[.int .u8 b] w fun ev w' => ev = .returned (.bool (lineB b)) ∧ w' = w := by
  go_enter Tryz.func58, Tryz.ntmps58
  go_wp2
  go_ret
  exact ⟨rfl, rfl⟩
theorem name_any (b : Int) (w : World) : Calls Tryz.prog 84 #[.int .u8 b] w fun ev w' => ev = .returned (.bool (nameB b)) ∧ w' = w := by
  cases h : smallB b
  all_goals
    go_enter Tryz.func84, Tryz.ntmps84
    go_wp2_with (first | (go_at_call 59; refine (small_any _ _).mono ?_; rintro e w' ⟨rfl, rfl⟩) | (go_at_call 62; refine (digit_any _ _).mono ?_; rintro e w' ⟨rfl, rfl⟩))
    go_ret
    exact ⟨ret_bool (by simp [nameB, h]), rfl⟩

/-- w' is w but for the place in the reader at block p, which is j. -/
structure Moved (p : Nat) (w w' : World) (j : Nat) : Prop where
  os : w'.os = w.os
  tape : w'.tape = w.tape
  output : w'.output = w.output
  size : w'.heap.size = w.heap.size
  far : ∀ k, k ≠ p → w'.heap[k]? = w.heap[k]?
  at_ : w'.cell? ⟨p, 1, none⟩ = some (.int .i64 j)
  near : ∀ o, o ≠ 1 → w'.cell? ⟨p, o, none⟩ = w.cell? ⟨p, o, none⟩
  fz : ∀ o, w'.frozen? ⟨p, o, none⟩ = w.frozen? ⟨p, o, none⟩

theorem Moved.refl {p : Nat} {w : World} {j : Nat} (h : w.cell? ⟨p, 1, none⟩ = some (.int .i64 j)) : Moved p w w j :=
  ⟨rfl, rfl, rfl, rfl, fun _ _ => rfl, h, fun _ _ => rfl, fun _ => rfl⟩
theorem Moved.trans {p : Nat} {w w1 w2 : World} {i j : Nat} (h : Moved p w w1 i) (k : Moved p w1 w2 j) : Moved p w w2 j :=
  ⟨k.os.trans h.os, k.tape.trans h.tape, k.output.trans h.output, k.size.trans h.size, fun x hx => (k.far x hx).trans (h.far x hx), k.at_, fun o ho => (k.near o ho).trans (h.near o ho), fun o => (k.fz o).trans (h.fz o)⟩
theorem Moved.drewN {p : Nat} {w w1 : World} {i : Nat} (h : Moved p w w1 i) (q : Nat) : Moved p w (w1.drewN q) i :=
  ⟨h.os, h.tape, h.output, h.size, h.far, h.at_, h.near, h.fz⟩
theorem Moved.drew {p : Nat} {w w1 : World} {i : Nat} (h : Moved p w w1 i) : Moved p w w1.drew i :=
  ⟨h.os, h.tape, h.output, h.size, h.far, h.at_, h.near, h.fz⟩
theorem Moved.set {p : Nat} {w : World} {u : Value} (h : w.cell? ⟨p, 1, none⟩ = some u) (j : Nat) : Moved p w (w.setCell ⟨p, 1, none⟩ (.int .i64 j)) j where
  os := rfl
  tape := rfl
  output := rfl
  size := by simp [World.setCell]
  far := fun k hk => Below.heap_setCell _ _ _ _ hk
  at_ := World.cell?_setCell_same _ _ _ h
  near := fun o ho => World.cell?_setCell_other _ _ _ _ (by intro e; exact ho (by simpa using e.symm))
  fz := fun o => by
    simp only [World.setCell, World.frozen?, Array.getElem?_modify]
    simp only [if_true]
    cases w.heap[p]? with
    | none => rfl
    | some x => cases x <;> rfl
theorem Moved.below {p B : Nat} {w w' : World} {j : Nat} (h : Moved p w w' j) (hp : B ≤ p) : Below B w w' :=
  ⟨h.os, h.tape, h.output, Nat.le_of_eq h.size.symm, fun k hk => h.far k (by omega)⟩

/-- Where a pass over wanted bytes ends. -/
def passTo (P : Int → Bool) (s : ByteArray) : Nat → Nat → Nat
  | 0, i => i
  | n + 1, i => if h : i < s.size then (if P (s[i].toNat : Int) then passTo P s n (i + 1) else i) else i

theorem passTo_le (P : Int → Bool) (s : ByteArray) : ∀ n i, i ≤ passTo P s n i ∧ (i ≤ s.size → passTo P s n i ≤ s.size)
  | 0, i => ⟨Nat.le_refl _, fun h => h⟩
  | n + 1, i => by
    unfold passTo
    split
    · split
      · have := passTo_le P s n (i + 1)
        exact ⟨by omega, fun h => this.2 (by omega)⟩
      · exact ⟨Nat.le_refl _, fun h => h⟩
    · exact ⟨Nat.le_refl _, fun h => h⟩

theorem passTo_go {P : Int → Bool} {s : ByteArray} {i : Nat} (h : i < s.size) (hP : P (s[i].toNat : Int) = true) : passTo P s (s.size - i) i = passTo P s (s.size - (i + 1)) (i + 1) := by
  obtain ⟨n, hn⟩ : ∃ n, s.size - i = n + 1 := ⟨s.size - i - 1, by omega⟩
  rw [hn, show s.size - (i + 1) = n by omega]
  simp [passTo, h, hP]
theorem passTo_stop {P : Int → Bool} {s : ByteArray} {i : Nat} (h : i < s.size) (hP : P (s[i].toNat : Int) = false) : passTo P s (s.size - i) i = i := by
  obtain ⟨n, hn⟩ : ∃ n, s.size - i = n + 1 := ⟨s.size - i - 1, by omega⟩
  rw [hn]
  simp [passTo, h, hP]
theorem passTo_end {P : Int → Bool} {s : ByteArray} {i : Nat} (h : i = s.size) : passTo P s (s.size - i) i = i := by
  subst h
  simp [passTo]

theorem enter46 (args : Array Value) (w : World) : (callFunc 57 args).run Tryz.prog w = .ok (.enter 57 args) w := by kernel_rfl

set_option maxHeartbeats 400000 in
theorem pass_any (K : FuncId) (P : Int → Bool) (hE : ∀ args w, (callFunc K args).run Tryz.prog w = .ok (.enter K args) w) (hK : ∀ b w, Calls Tryz.prog K #[.int .u8 b] w fun ev w' => ev = .returned (.bool (P b)) ∧ w' = w)
    (p : Nat) (s : ByteArray) (at_ : Nat) (w : World) (hs : s.size ≤ 6000) (hat : at_ ≤ s.size) (c0 : w.cell? ⟨p, 0, none⟩ = some (.string s)) (c1 : w.cell? ⟨p, 1, none⟩ = some (.int .i64 at_)) (f1 : w.frozen? ⟨p, 1, none⟩ = false) :
    Calls Tryz.prog 56 #[.pointer (some ⟨p, 0, none⟩), .func (.func K) #[] #[]] w fun ev w' => ev = .returned (.int .i64 ((passTo P s (s.size - at_) at_ : Nat) - (at_ : Int))) ∧ Moved p w w' (passTo P s (s.size - at_) at_) := by
  have HK : Hid (∀ b w, Calls Tryz.prog K #[.int .u8 b] w fun ev w' => ev = .returned (.bool (P b)) ∧ w' = w) := hK
  clear hK
  have hM := Moved.refl c1
  go_enter Tryz.func56, Tryz.ntmps56
  go_wp2
  go_loopg [] (s.size - at_) (fun k wr => ∃ i : Nat, k = s.size - i ∧ at_ ≤ i ∧ i ≤ s.size ∧ passTo P s (s.size - i) i = passTo P s (s.size - at_) at_ ∧ Moved p w wr i)
  case atStart => exact ⟨at_, rfl, Nat.le_refl _, hat, rfl, hM⟩
  case round =>
    obtain ⟨i, hk, hi1, hi2, hpass, hm⟩ := hrel
    have HP : Hid (passTo P s (s.size - i) i = passTo P s (s.size - at_) at_) := hpass
    have HG : Hid (gk = s.size - i) := hk
    clear hpass hk hM c1
    have d0 : wr.cell? ⟨p, 0, none⟩ = some (.string s) := (hm.near 0 (by decide)).trans c0
    have d1 := hm.at_
    have g1 : wr.frozen? ⟨p, 1, none⟩ = false := (hm.fz 1).trans f1
    by_cases hlt : i < s.size
    · have hI : (i : Int) < (s.size : Int) := by omega
      have hI0 : (0 : Int) ≤ (i : Int) := by omega
      cases hP : P (s[i].toNat : Int)
      · go_wp2
        go_quiet ((exact Calls.quiet_of_same (HK.out _ _)))
        go_wp2
        go_ret
        have e : passTo P s (s.size - at_) at_ = i := HP.out.symm.trans (passTo_stop hlt hP)
        rw [e]
        exact ⟨rfl, hm.drewN _⟩
      · go_wp2
        go_quiet ((exact Calls.quiet_of_same (HK.out _ _)))
        go_wp2
        go_roundg (s.size - (i + 1))
        case measure => have := HG.out; omega
        case rel => exact ⟨i + 1, rfl, by omega, by omega, (passTo_go hlt hP).symm.trans HP.out, (hm.drewN _).trans (Moved.set (hm.drewN _).at_ (i + 1))⟩
    · have hEq : i = s.size := by omega
      have hd : decide ((i : Int) < (s.size : Int)) = false := by simp; omega
      have HQ : Hid (i = s.size) := hEq
      clear hEq
      go_wp2
      go_quiet (fail)
      go_wp2
      go_ret
      have e : passTo P s (s.size - at_) at_ = i := HP.out.symm.trans (passTo_end HQ.out)
      rw [e]
      exact ⟨rfl, hm.drewN _⟩
end Go.Proofs.YtpidanllncneaaaGreatDoor
