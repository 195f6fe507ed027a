/- Package lex: blanks, line ends, the innermost indentation, the next byte of a str, by contracts. -/
import Derived.Test.YtpidanllncneaaaGreatDoorLexA
namespace Go.Proofs.YtpidanllncneaaaGreatDoor
open Go.RowKit

theorem enterComment (args : Array Value) (w : World) : (callFunc 58 args).run Tryz.prog w = .ok (.enter 58 args) w := by kernel_rfl
theorem enterName (args : Array Value) (w : World) : (callFunc 84 args).run Tryz.prog w = .ok (.enter 84 args) w := by kernel_rfl
theorem enterDigit (args : Array Value) (w : World) : (callFunc 62 args).run Tryz.prog w = .ok (.enter 62 args) w := by kernel_rfl

/-- Behind the blanks from i on. -/
def blanksTo (s : ByteArray) (i : Nat) : Nat := passTo blankB s (s.size - i) i
/-- Behind a comment that begins at i, if one does. -/
def commentTo (s : ByteArray) (i : Nat) : Nat := if h : i < s.size then (if (s[i].toNat : Int) == 35 then passTo lineB s (s.size - i) i else i) else i
/-- Does a line end at i? -/
def endsB (s : ByteArray) (i : Nat) : Bool := if h : i < s.size then (s[i].toNat : Int) == 10 else true

theorem blanksTo_le (s : ByteArray) (i : Nat) (h : i ≤ s.size) : i ≤ blanksTo s i ∧ blanksTo s i ≤ s.size := ⟨(passTo_le _ _ _ _).1, (passTo_le _ _ _ _).2 h⟩
theorem commentTo_le (s : ByteArray) (i : Nat) (h : i ≤ s.size) : i ≤ commentTo s i ∧ commentTo s i ≤ s.size := by
  unfold commentTo
  split
  · split
    · exact ⟨(passTo_le _ _ _ _).1, (passTo_le _ _ _ _).2 h⟩
    · exact ⟨Nat.le_refl _, h⟩
  · exact ⟨Nat.le_refl _, h⟩

/-- What a walk of a reader's method wants of the reader: where it lies, its text, its place. -/
structure At (p : Nat) (s : ByteArray) (at_ : Nat) (w : World) : Prop where
  hs : s.size ≤ 6000
  hat : at_ ≤ s.size
  c0 : w.cell? ⟨p, 0, none⟩ = some (.string s)
  c1 : w.cell? ⟨p, 1, none⟩ = some (.int .i64 at_)
  f1 : w.frozen? ⟨p, 1, none⟩ = false

theorem At.moved {p : Nat} {s : ByteArray} {i j : Nat} {w w' : World} (h : At p s i w) (hm : Moved p w w' j) (hj : j ≤ s.size) : At p s j w' :=
  ⟨h.hs, hj, (hm.near 0 (by decide)).trans h.c0, hm.at_, (hm.fz 1).trans h.f1⟩

theorem passBlanks_any (p : Nat) (s : ByteArray) (i : Nat) (w : World) (h : At p s i w) :
    Calls Tryz.prog 29 #[.pointer (some ⟨p, 0, none⟩)] w fun ev w' => ev = .returned (.int .i64 ((blanksTo s i : Nat) - (i : Int))) ∧ Moved p w w' (blanksTo s i) := by
  go_enter Tryz.func29, Tryz.ntmps29
  go_wp2_with fail
  refine (pass_any 57 blankB enter46 blank_any p s i _ h.hs h.hat h.c0 h.c1 h.f1).mono ?_
  rintro ev w1 ⟨rfl, hm⟩
  go_wp2_with fail
  go_ret
  exact ⟨rfl, hm⟩

set_option maxHeartbeats 400000 in
/-- The second test of lineEnds, and what is ahead of it, where no comment begins. -/
theorem lineEnds_plain (p : Nat) (s : ByteArray) (i : Nat) (w : World) (h : At p s i w) (hc : ∀ hi : i < s.size, ((s[i].toNat : Int) == 35) = false) :
    Calls Tryz.prog 30 #[.pointer (some ⟨p, 0, none⟩)] w fun ev w' => ev = .returned (.bool (endsB s i)) ∧ Moved p w w' i := by
  have hM := Moved.refl h.c1
  obtain ⟨hs, hat, c0, c1, f1⟩ := h
  by_cases hlt : i < s.size
  · have hI : (i : Int) < (s.size : Int) := by omega
    have hI0 : (0 : Int) ≤ (i : Int) := by omega
    have hne : ((i : Int) == (s.size : Int)) = false := by simp; omega
    have hc' := hc hlt
    clear hc
    go_enter Tryz.func30, Tryz.ntmps30
    go_wp2
    go_quiet (fail)
    go_wp2
    go_quiet (fail)
    go_wp2
    go_ret
    exact ⟨ret_bool (by simp [endsB, hlt]), (hM.drewN _).drewN _⟩
  · have hd : decide ((i : Int) < (s.size : Int)) = false := by simp; omega
    have heq : ((i : Int) == (s.size : Int)) = true := by simp; omega
    clear hc
    go_enter Tryz.func30, Tryz.ntmps30
    go_wp2
    go_quiet (fail)
    go_wp2
    go_quiet (fail)
    go_wp2
    go_ret
    exact ⟨ret_bool (by simp [endsB, hlt]), (hM.drewN _).drewN _⟩

theorem below_drewN' {B : Nat} {a w : World} {o : Obj} {q : Nat} (h : Below B a (w.alloc o)) : Below B a ((w.drewN q).alloc o) := ⟨h.os, h.tape, h.output, h.size, h.block⟩
theorem cell_new {w : World} {c : Array Value} {t : TypeId} {n i : Nat} {v : Value} (hn : n = w.heap.size) (h : c[i]? = some v) : (w.alloc (.cells c t)).cell? ⟨n, i, none⟩ = some v := by
  rw [World.cell?_alloc_at _ _ _ _ hn]; exact h
theorem At.drewN {p : Nat} {s : ByteArray} {i : Nat} {w : World} (h : At p s i w) (q : Nat) : At p s i (w.drewN q) := ⟨h.hs, h.hat, h.c0, h.c1, h.f1⟩

set_option maxHeartbeats 400000 in
/-- lineEnds where a comment begins. -/
theorem lineEnds_comment (p : Nat) (s : ByteArray) (i : Nat) (w : World) (h : At p s i w) (hlt : i < s.size) (hc : ((s[i].toNat : Int) == 35) = true) :
    Calls Tryz.prog 30 #[.pointer (some ⟨p, 0, none⟩)] w fun ev w' => ev = .returned (.bool (endsB s (passTo lineB s (s.size - i) i))) ∧ Moved p w w' (passTo lineB s (s.size - i) i) := by
  have hM := Moved.refl h.c1
  have hA := h
  have hle := (passTo_le lineB s (s.size - i) i).2 h.hat
  obtain ⟨hs, hat, c0, c1, f1⟩ := h
  have hI : (i : Int) < (s.size : Int) := by omega
  have hI0 : (0 : Int) ≤ (i : Int) := by omega
  go_enter Tryz.func30, Tryz.ntmps30
  go_wp2
  go_quiet (fail)
  go_wp2_with fail
  refine (pass_any 58 lineB enterComment comment_any p s i _ hs hat (hA.drewN _).c0 (hA.drewN _).c1 (hA.drewN _).f1).mono ?_
  rintro ev w1 ⟨rfl, hm⟩
  generalize hjj : passTo lineB s (s.size - i) i = j at hm hle ⊢
  have HJ : Hid (passTo lineB s (s.size - i) i = j) := hjj
  clear hjj
  have hB := (hA.drewN nq).moved hm hle
  obtain ⟨_, _, d0, d1, _⟩ := hB
  clear c0 c1 f1 hc
  by_cases hj : j < s.size
  · have hJ : (j : Int) < (s.size : Int) := by omega
    have hJ0 : (0 : Int) ≤ (j : Int) := by omega
    have hne : ((j : Int) == (s.size : Int)) = false := by simp; omega
    go_wp2
    go_quiet (fail)
    go_wp2
    go_ret
    rw [HJ.out]
    exact ⟨ret_bool (by simp [endsB, hj]), ((hM.drewN _).trans hm).drewN _⟩
  · have heq : ((j : Int) == (s.size : Int)) = true := by simp; omega
    go_wp2
    go_quiet (fail)
    go_wp2
    go_ret
    rw [HJ.out]
    exact ⟨ret_bool (by simp [endsB, hj]), ((hM.drewN _).trans hm).drewN _⟩

theorem lineEnds_any (p : Nat) (s : ByteArray) (i : Nat) (w : World) (h : At p s i w) :
    Calls Tryz.prog 30 #[.pointer (some ⟨p, 0, none⟩)] w fun ev w' => ev = .returned (.bool (endsB s (commentTo s i))) ∧ Moved p w w' (commentTo s i) := by
  by_cases hlt : i < s.size
  · cases hc : ((s[i].toNat : Int) == 35)
    · have e : commentTo s i = i := by simp [commentTo, hlt, hc]
      rw [e]
      exact lineEnds_plain p s i w h (fun _ => hc)
    · have e : commentTo s i = passTo lineB s (s.size - i) i := by simp [commentTo, hlt, hc]
      rw [e]
      exact lineEnds_comment p s i w h hlt hc
  · have e : commentTo s i = i := by simp [commentTo, hlt]
    rw [e]
    exact lineEnds_plain p s i w h (fun hi => absurd hi hlt)

/-- The innermost indentation: the last element of the slice open. -/
theorem innermost_any (p : Nat) (w : World) (g n cap : Nat) (z : Int) (hn : n ≤ 100000) (c2 : w.cell? ⟨p, 2, none⟩ = some (.slice (some ⟨g, 0, none⟩) (n + 1) cap)) (hz : w.cell? ⟨g, n, none⟩ = some (.int .i64 z)) :
    Calls Tryz.prog 32 #[.pointer (some ⟨p, 0, none⟩)] w fun ev w' => ev = .returned (.int .i64 z) ∧ ∃ q, w' = w.drewN q := by
  have hI : (n : Int) < ((n + 1 : Nat) : Int) := by omega
  have hI0 : (0 : Int) ≤ (n : Int) := by omega
  go_enter Tryz.func32, Tryz.ntmps32
  go_wp2
  go_quiet (fail)
  go_wp2
  go_ret
  exact ⟨rfl, _, rfl⟩

/-- A call that ends in the throw of a fault at the place i; nothing below block B has turned. -/
def Thrown (B : Nat) (w : World) (i : Nat) (a0 : Addr) (ev : Ending) (w' : World) : Prop :=
  ∃ b, ev = .panicked [{ v := .iface 39 (.pointer (some ⟨b, 0, none⟩)), recovered := false }] ∧ Below B w w' ∧ w'.cell? ⟨b, 0, none⟩ = some (.int .i64 i) ∧ w'.cell? ⟨b, 1, none⟩ = some (.iface 177 (.pointer (some a0)))

theorem Thrown.after {B : Nat} {w w1 : World} {i : Nat} {a0 : Addr} {ev : Ending} {w' : World} (hb : Below B w w1) (h : Thrown B w1 i a0 ev w') : Thrown B w i a0 ev w' := by
  obtain ⟨b, h1, h2, h3, h4⟩ := h
  exact ⟨b, h1, hb.trans h2, h3, h4⟩

set_option maxHeartbeats 400000 in
/-- The next byte of a str. br, bf: where the closure's two variables lie. -/
theorem next_some (p br bf : Nat) (s : ByteArray) (i : Nat) (w : World) (h : At p s i w) (hlt : i < s.size) (hr : w.cell? ⟨br, 0, none⟩ = some (.pointer (some ⟨p, 0, none⟩))) (hbr : br ≠ p) :
    Calls Tryz.prog 87 #[.pointer (some ⟨br, 0, none⟩), .pointer (some ⟨bf, 0, none⟩)] w fun ev w' => ev = .returned (.int .u8 (s[i].toNat : Int)) ∧ Moved p w w' (i + 1) := by
  have hM := Moved.refl h.c1
  obtain ⟨hs, hat, c0, c1, f1⟩ := h
  have hI : (i : Int) < (s.size : Int) := by omega
  have hI0 : (0 : Int) ≤ (i : Int) := by omega
  have hne : ((i : Int) == (s.size : Int)) = false := by simp; omega
  go_enter Tryz.func87, Tryz.ntmps87
  go_wp2
  go_quiet (fail)
  go_wp2
  have hm2 : Moved p w ((w.drewN nq).setCell ⟨p, 1, none⟩ (.int .i64 ((i : Int) + 1))) (i + 1) := (hM.drewN nq).trans (Moved.set (hM.drewN nq).at_ (i + 1))
  generalize (w.drewN nq).setCell ⟨p, 1, none⟩ (.int .i64 ((i : Int) + 1)) = w2 at hm2 ⊢
  have d0 : w2.cell? ⟨p, 0, none⟩ = some (.string s) := (hm2.near 0 (by decide)).trans c0
  have d1 : w2.cell? ⟨p, 1, none⟩ = some (.int .i64 ((i : Int) + 1)) := hm2.at_
  have dr : w2.cell? ⟨br, 0, none⟩ = some (.pointer (some ⟨p, 0, none⟩)) := (World.cell?_of_block (w := w) (hm2.far br hbr)).trans hr
  clear c0 c1 f1 hr
  go_quiet (fail)
  go_wp2
  go_ret
  exact ⟨rfl, hm2.drewN _⟩

set_option maxHeartbeats 400000 in
/-- There is no next byte: the fault, at the str's begin. -/
theorem next_none (B p br bf : Nat) (s : ByteArray) (i from_ : Nat) (a0 : Addr) (w : World) (h : At p s i w) (hB : B ≤ w.heap.size) (hend : i = s.size) (hr : w.cell? ⟨br, 0, none⟩ = some (.pointer (some ⟨p, 0, none⟩))) (hf : w.cell? ⟨bf, 0, none⟩ = some (.int .i64 from_)) (hg : w.cell? ⟨2, 0, none⟩ = some (.iface 177 (.pointer (some a0)))) :
    Calls Tryz.prog 87 #[.pointer (some ⟨br, 0, none⟩), .pointer (some ⟨bf, 0, none⟩)] w fun ev w' => Thrown B w from_ a0 ev w' := by
  have hM := Moved.refl h.c1
  obtain ⟨hs, hat, c0, c1, f1⟩ := h
  have heq : ((i : Int) == (s.size : Int)) = true := by simp; omega
  clear hend
  go_enter Tryz.func87, Tryz.ntmps87
  go_wp2
  go_quiet (fail)
  go_wp2_with fail
  refine (none_any _ a0 _ (by exact hg)).mono ?_
  rintro ev w1 ⟨rfl, rfl⟩
  go_wp2_with fail
  exact ⟨rfl, w.heap.size, rfl, below_drewN' ((Below.refl _ _).alloc hB _), cell_new rfl rfl, cell_new rfl rfl⟩
end Go.Proofs.YtpidanllncneaaaGreatDoor
