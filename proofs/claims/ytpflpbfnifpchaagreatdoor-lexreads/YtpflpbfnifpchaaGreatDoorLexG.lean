/- Package lex: ops, by their contract. -/
import Derived.Test.YtpflpbfnifpchaaGreatDoorLexF
namespace Go.Proofs.YtpflpbfnifpchaaGreatDoor
open Go.RowKit

/-- The first op of the table, from the k-th on, that stands at i. -/
def opFrom (s : ByteArray) (i : Nat) : Nat → Nat → Option (ByteArray × Nat)
  | 0, _ => none
  | n + 1, k => if prefixB (s.extract i s.size) (opAt k) then some (opAt k, i + (opAt k).size) else opFrom s i n (k + 1)
def opTok (s : ByteArray) (i : Nat) : Option (ByteArray × Nat) := opFrom s i 21 0

theorem opFrom_hit {s : ByteArray} {i k : Nat} (hk : k < 21) (h : prefixB (s.extract i s.size) (opAt k) = true) : opFrom s i (21 - k) k = some (opAt k, i + (opAt k).size) := by
  obtain ⟨n, hn⟩ : ∃ n, 21 - k = n + 1 := ⟨21 - k - 1, by omega⟩
  rw [hn]
  simp only [opFrom, h, if_true]
theorem opFrom_miss {s : ByteArray} {i k : Nat} (hk : k < 21) (h : prefixB (s.extract i s.size) (opAt k) = false) : opFrom s i (21 - k) k = opFrom s i (21 - (k + 1)) (k + 1) := by
  obtain ⟨n, hn⟩ : ∃ n, 21 - k = n + 1 := ⟨21 - k - 1, by omega⟩
  rw [hn, show 21 - (k + 1) = n by omega]
  simp only [opFrom, h, Bool.false_eq_true, if_false]
theorem opAt_size (k : Nat) : (opAt k).size ≤ 2 := by
  iterate 21 (rcases k with _ | k; · decide)
  have : opAt (k + 1 + 1 + 1 + 1 + 1 + 1 + 1 + 1 + 1 + 1 + 1 + 1 + 1 + 1 + 1 + 1 + 1 + 1 + 1 + 1 + 1) = ⟨#[]⟩ := rfl
  rw [this]
  decide
theorem prefixB_size {a b : ByteArray} (h : prefixB a b = true) : b.size ≤ a.size := by
  unfold prefixB at h
  split at h
  · assumption
  · cases h

/-- What op comes to. -/
def OPost (B p : Nat) (s : ByteArray) (i : Nat) (a0 : Addr) (w : World) (ev : Ending) (w' : World) : Prop :=
  match opTok s i with
  | some (t, j) => ev = .returned (.string t) ∧ Went p w w' j ∧ j ≤ s.size
  | none => Thrown B w i a0 ev w'

set_option maxHeartbeats 1000000 in
theorem op_walk (B p i : Nat) (s : ByteArray) (a0 : Addr) (w : World) (h : At p s i w) (hlt : i < s.size) (hp : p < w.heap.size) (hBp : B ≤ p) (hg : w.cell? ⟨2, 0, none⟩ = some (.iface 155 (.pointer (some a0)))) (tt : TypeId) (fr : Nat × Nat) (hw : w.heap[8]? = some (.cells opCells tt fr)) :
    Calls Tryz.prog 56 #[.pointer (some ⟨p, 0, none⟩)] w fun ev w' => OPost B p s i a0 w ev w' := by
  have hM := Moved.refl h.c1
  obtain ⟨hs, hat, c0, c1, f1⟩ := h
  have hI : (i : Int) ≤ (s.size : Int) := by omega
  have hI0 : (0 : Int) ≤ (i : Int) := by omega
  go_enter Tryz.func56, Tryz.ntmps56
  go_wp2_with (refine wpList_load_row rfl 114 _ rfl 8 rfl tt _ fr _ hw Tryz.underlying114 rfl infoOps ?_)
  clear hw
  go_loopg [6] 21 (fun n v6 wr => ∃ k q : Nat, n = 21 - k ∧ k ≤ 21 ∧ v6 = .int .i64 (k : Int) ∧ opFrom s i (21 - k) k = opTok s i ∧ wr = w.drewN q)
  case atStart => exact ⟨0, 0, rfl, by decide, rfl, rfl, rfl⟩
  case round =>
    obtain ⟨k, q, hn, hk, hv, hwf, hwr⟩ := hrel
    subst hv
    have hMr : Moved p w wr i := by rw [hwr]; exact hM.drewN q
    have d0 : wr.cell? ⟨p, 0, none⟩ = some (.string s) := (hMr.near 0 (by decide)).trans c0
    have d1 := hMr.at_
    have g1 : wr.frozen? ⟨p, 1, none⟩ = false := (hMr.fz 1).trans f1
    have dg : wr.cell? ⟨2, 0, none⟩ = some (.iface 155 (.pointer (some a0))) := by rw [hwr]; exact hg
    have HWR : Hid (wr = w.drewN q) := hwr
    clear hwr c0 c1 f1 hg hM
    have HW : Hid (opFrom s i (21 - k) k = opTok s i) := hwf
    have HN : Hid (gk = 21 - k) := hn
    clear hwf hn
    have hos := opAt_size k
    by_cases hlt : k < 21
    · have hix := op_index k hlt
      have hI : (k : Int) < 21 := by omega
      cases he : prefixB (s.extract i s.size) (opAt k)
      · go_wp2_with fail
        go_quiet ((go_at_call 73; exact Calls.quiet_of_same (hasPrefix_any _ _ _)))
        rw [he]
        go_wp2_with fail
        go_roundg (21 - (k + 1))
        case measure => have := HN.out; omega
        case rel => exact ⟨k + 1, q + nq, rfl, by omega, by go_num, (opFrom_miss hlt he).symm.trans HW.out, by rw [HWR.out]; simp [World.drewN, Nat.add_assoc]⟩
      · have HP : Hid (prefixB (s.extract i s.size) (opAt k) = true) := he
        have hsz := prefixB_size he
        have hez : (s.extract i s.size).size = s.size - i := by simp
        go_wp2_with fail
        go_quiet ((go_at_call 73; exact Calls.quiet_of_same (hasPrefix_any _ _ _)))
        rw [he]
        go_wp2_with fail
        go_ret
        unfold OPost
        rw [← HW.out, opFrom_hit hlt HP.out]
        exact ⟨rfl, ((hMr.drewN _).trans (Moved.set (hMr.drewN _).at_ (i + (opAt k).size))).went, by omega⟩
    · have HK : Hid (k = 21) := show k = 21 by omega
      go_wp2_with fail
      refine (none_any _ a0 _ dg).mono ?_
      rintro ev w3 ⟨rfl, rfl⟩
      go_wp2
      refine ⟨rfl, ?_⟩
      unfold OPost
      have hno : opTok s i = none := HW.out.symm.trans (by rw [HK.out]; rfl)
      rw [hno]
      exact ⟨_, rfl, (hMr.below hBp).alloc (by rw [hMr.size]; omega) _, cell_new rfl rfl, cell_new rfl rfl⟩
end Go.Proofs.YtpflpbfnifpchaaGreatDoor
