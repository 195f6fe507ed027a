/- Package lex: the deferred closure of Lex, by its two contracts. -/
import Derived.Test.YtpflpbfnifpchaaGreatDoorLexP
import Derived.Recover
import Derived.Defers
import Derived.Laws.Pointers
namespace Go.Proofs.YtpflpbfnifpchaaGreatDoor
open Go.RowKit

theorem assertFault (f : Addr) (xT : TypeId) (w : World) : (Instr.typeAssert (.iface 45 (.pointer (some f))) xT 45 true).run Tryz.prog w = .ok (.tuple #[.pointer (some f), .bool true]) w := by kernel_rfl

set_option maxHeartbeats 400000 in
theorem catch_idle (bl be : Nat) (w : World) :
    CallsD Tryz.prog 15 #[.pointer (some ⟨bl, 0, none⟩), .pointer (some ⟨be, 0, none⟩)] .returning w fun e u' w' => e = .returned (.tuple #[]) ∧ u' = .returning ∧ w' = w := by
  refine callsD_of_wpS Tryz.func15 rfl fun c₀ cs hu => ?_
  apply wpS_seq
  apply wpS_region
  simp [wpOpsS, go_sem, recoverD, hu, Tryz.ntmps15, Exit.thenS]
  apply wpS_seq
  apply wpS_seq
  apply wpS_region
  simp [wpOpsS, go_sem, Exit.thenS]
  refine wpS_cond (t := true) (by simp [Act.eval, Array.replicate]) ?_
  simp only [if_true]
  refine wpS_of_wp (wp_ret ?_)
  cases c₀
  simp_all [bodyPostS, results, Tryz.results15, Exit.thenS]

set_option maxHeartbeats 1000000 in
theorem catch_fault (bl be : Nat) (f : Addr) (older : List PanicEntry) (vl ve : Value) (w : World) (hne : bl ≠ be) (hl : w.cell? ⟨bl, 0, none⟩ = some vl) (hlf : w.frozen? ⟨bl, 0, none⟩ = false) (he : w.cell? ⟨be, 0, none⟩ = some ve) (hef : w.frozen? ⟨be, 0, none⟩ = false) :
    CallsD Tryz.prog 15 #[.pointer (some ⟨bl, 0, none⟩), .pointer (some ⟨be, 0, none⟩)] (.panicking ({ v := .iface 45 (.pointer (some f)), recovered := false } :: older)) w fun e u' w' =>
      e = .returned (.tuple #[]) ∧ u' = .panicking ({ v := .iface 45 (.pointer (some f)), recovered := true } :: older) ∧ w' = (w.setCell ⟨bl, 0, none⟩ (.slice none 0 0)).setCell ⟨be, 0, none⟩ (.iface 45 (.pointer (some f))) := by
  have ha := assertFault f
  have he2 : (w.setCell ⟨bl, 0, none⟩ (.slice none 0 0)).cell? ⟨be, 0, none⟩ = some ve := by rw [World.cell?_of_block (w := w) (a := ⟨be, 0, none⟩) (heap_set _ _ _ _ _ hne.symm)]; exact he
  have hf2 : (w.setCell ⟨bl, 0, none⟩ (.slice none 0 0)).frozen? ⟨be, 0, none⟩ = false := by rw [World.frozen?_of_block (w := w) (a := ⟨be, 0, none⟩) (heap_set _ _ _ _ _ hne.symm)]; exact hef
  refine callsD_of_wpS Tryz.func15 rfl fun c₀ cs hu => ?_
  apply wpS_seq
  apply wpS_region
  simp [wpOpsS, go_sem, recoverD, hu, Tryz.ntmps15, Exit.thenS]
  apply wpS_seq
  apply wpS_seq
  apply wpS_region
  simp [wpOpsS, go_sem, Exit.thenS]
  refine wpS_cond (t := false) (by simp [Act.eval, Array.replicate]) ?_
  simp only [Bool.false_eq_true, if_false]
  refine wpS_of_wp (wp_skip ?_)
  simp only [Exit.thenS]
  apply wpS_seq
  apply wpS_region
  simp [wpOpsS, go_sem, Exit.thenS, ha]
  apply wpS_seq
  apply wpS_seq
  apply wpS_region
  simp [wpOpsS, go_sem, Exit.thenS]
  refine wpS_cond (t := false) (by simp [Act.eval, Array.replicate]) ?_
  simp only [Bool.false_eq_true, if_false]
  refine wpS_of_wp (wp_skip ?_)
  simp only [Exit.thenS]
  apply wpS_region
  simp [wpOpsS, go_sem, hl, hlf, he2, hf2, bodyPostS, results, Tryz.results15]
end Go.Proofs.YtpflpbfnifpchaaGreatDoor
