/- Package lex: the deferred closure of Lex, by its two contracts. -/
import Derived.Test.YtpidanllncneaaaGreatDoorLexNToLexP
import Derived.Recover
import Derived.Defers
import Derived.Laws.Pointers
namespace Go.Proofs.YtpidanllncneaaaGreatDoor
open Go.RowKit

theorem assertFault (f : Addr) (xT : TypeId) (w : World) : (Instr.typeAssert (.iface 39 (.pointer (some f))) xT 39 true).run Tryz.prog w = .ok (.tuple #[.pointer (some f), .bool true]) w := by kernel_rfl

set_option maxHeartbeats 400000 in
theorem catch_idle (bl be : Nat) (w : World) :
    CallsD Tryz.prog 16 #[.pointer (some ⟨bl, 0, none⟩), .pointer (some ⟨be, 0, none⟩)] .returning w fun e u' w' => e = .returned (.tuple #[]) ∧ u' = .returning ∧ w' = w := by
  refine callsD_of_wpS Tryz.func16 rfl fun c₀ cs hu => ?_
  apply wpS_seq
  apply wpS_region
  simp [wpOpsS, go_sem, recoverD, hu, Tryz.ntmps16, Exit.thenS]
  apply wpS_seq
  apply wpS_seq
  apply wpS_region
  simp [wpOpsS, go_sem, Exit.thenS]
  refine wpS_cond (t := true) (by simp [Act.eval, Array.replicate]) ?_
  simp only [if_true]
  refine wpS_of_wp (wp_ret ?_)
  cases c₀
  simp_all [bodyPostS, results, Tryz.results16, Exit.thenS]

set_option maxHeartbeats 1000000 in
theorem catch_fault (bl be : Nat) (f : Addr) (older : List PanicEntry) (vl ve : Value) (w : World) (hne : bl ≠ be) (hl : w.cell? ⟨bl, 0, none⟩ = some vl) (hlf : w.frozen? ⟨bl, 0, none⟩ = false) (he : w.cell? ⟨be, 0, none⟩ = some ve) (hef : w.frozen? ⟨be, 0, none⟩ = false) :
    CallsD Tryz.prog 16 #[.pointer (some ⟨bl, 0, none⟩), .pointer (some ⟨be, 0, none⟩)] (.panicking ({ v := .iface 39 (.pointer (some f)), recovered := false } :: older)) w fun e u' w' =>
      e = .returned (.tuple #[]) ∧ u' = .panicking ({ v := .iface 39 (.pointer (some f)), recovered := true } :: older) ∧ w' = (w.setCell ⟨bl, 0, none⟩ (.slice none 0 0)).setCell ⟨be, 0, none⟩ (.iface 39 (.pointer (some f))) := by
  have ha := assertFault f
  have he2 : (w.setCell ⟨bl, 0, none⟩ (.slice none 0 0)).cell? ⟨be, 0, none⟩ = some ve := by rw [World.cell?_of_block (w := w) (a := ⟨be, 0, none⟩) (heap_set _ _ _ _ _ hne.symm)]; exact he
  have hf2 : (w.setCell ⟨bl, 0, none⟩ (.slice none 0 0)).frozen? ⟨be, 0, none⟩ = false := by rw [World.frozen?_of_block (w := w) (a := ⟨be, 0, none⟩) (heap_set _ _ _ _ _ hne.symm)]; exact hef
  refine callsD_of_wpS Tryz.func16 rfl fun c₀ cs hu => ?_
  apply wpS_seq
  apply wpS_region
  simp [wpOpsS, go_sem, recoverD, hu, Tryz.ntmps16, Exit.thenS]
  apply wpS_seq
  apply wpS_seq
  apply wpS_region
  simp [wpOpsS, go_sem, Exit.thenS]
  refine wpS_cond (t := false) (by simp [Act.eval, Array.replicate]) ?_
  simp only [Bool.false_eq_true, if_false]
  refine wpS_of_wp (wp_skip ?_)
  simp only [Exit.thenS]
  apply wpS_seq
  apply wpS_region
  simp [wpOpsS, go_sem, Exit.thenS, ha]
  apply wpS_seq
  apply wpS_seq
  apply wpS_region
  simp [wpOpsS, go_sem, Exit.thenS]
  refine wpS_cond (t := false) (by simp [Act.eval, Array.replicate]) ?_
  simp only [Bool.false_eq_true, if_false]
  refine wpS_of_wp (wp_skip ?_)
  simp only [Exit.thenS]
  apply wpS_region
  simp [wpOpsS, go_sem, hl, hlf, he2, hf2, bodyPostS, results, Tryz.results16]
end Go.Proofs.YtpidanllncneaaaGreatDoor

/- Package lex: what Lex comes to, and its walk. -/
namespace Go.Proofs.YtpidanllncneaaaGreatDoor
open Go.RowKit

def kEnd : ByteArray := ⟨#[101, 110, 100]⟩

/-- All lines. -/
def runLines (s : ByteArray) : Nat → LexSt → Except Nat LexSt
  | 0, σ => .ok σ
  | f + 1, σ => if σ.at_ < s.size then (match lineStep s σ with | .ok σ' => runLines s f σ' | .error e => .error e) else .ok σ

/-- What Lex comes to, at a program that is not too long: how many tokens and their cells, or where there is none. -/
def lexP (s : ByteArray) : Except Nat (Nat × List Value) :=
  match runLines s s.size ⟨0, [0], 0, []⟩ with
  | .error e => .error e
  | .ok σ => match settleP σ.st 0 σ.at_ σ.n σ.tk with
    | none => .error σ.at_
    | some (_, n', tk') => .ok (n' + 1, tk' ++ tokCells kEnd ⟨#[]⟩ σ.at_)

theorem restToks_ok {s : ByteArray} : ∀ {f i : Nat} {tk : List Value} {n e : Nat} {tk2 : List Value} {n2 : Nat}, i ≤ s.size → restToks s f i tk n = .ok (e, tk2, n2) → i ≤ e ∧ e ≤ s.size ∧ n2 + i ≤ n + e
  | 0, i, tk, n, e, tk2, n2, hi, h => by simp [restToks] at h
  | f + 1, i, tk, n, e, tk2, n2, hi, h => by
    have hsk := skipTo_le s i hi
    unfold restToks at h
    split at h
    · simp at h
      obtain ⟨rfl, rfl, rfl⟩ := h
      exact ⟨hsk.1, hsk.2, by omega⟩
    · cases ht : tokAt s (skipTo s i) with
      | none => rw [ht] at h; cases h
      | some x =>
        obtain ⟨k, t, j⟩ := x
        rw [ht] at h
        have h1 := tokAt_lt ht
        have h2 := tokAt_bd ht
        have := restToks_ok h2 h
        omega

theorem lineStep_inv {s : ByteArray} {σ σ' : LexSt} (I : Inv s σ) (hlt : σ.at_ < s.size) (h : lineStep s σ = .ok σ') : Inv s σ' ∧ σ.at_ < σ'.at_ := by
  have hsk := skipTo_le s σ.at_ I.hat
  have hc := I.cnt
  unfold lineStep at h
  split at h
  · simp only [Except.ok.injEq] at h
    subst h
    refine ⟨⟨?_, I.last, ?_⟩, ?_⟩
    · simp only [afterLine]; split <;> omega
    · simp only [afterLine]; split <;> omega
    · simp only [afterLine]; split <;> omega
  · cases hst : settleP σ.st ((blanksTo s σ.at_ : Nat) - (σ.at_ : Int)) (skipTo s σ.at_) σ.n σ.tk with
    | none => rw [hst] at h; cases h
    | some x =>
      obtain ⟨st', n', tk'⟩ := x
      rw [hst] at h
      have hinv := settleP_inv hst I.last
      cases htk : tokAt s (skipTo s σ.at_) with
      | none => rw [htk] at h; cases h
      | some y =>
        obtain ⟨k, t, j⟩ := y
        rw [htk] at h
        have h1 := tokAt_lt htk
        have h2 := tokAt_bd htk
        simp only at h
        cases hr : restToks s (s.size + 1 - j) j (tk' ++ tokCells k t (skipTo s σ.at_)) (n' + 1) with
        | error e => rw [hr] at h; cases h
        | ok z =>
          obtain ⟨e, tk2, n2⟩ := z
          rw [hr] at h
          simp only [Except.ok.injEq] at h
          subst h
          have h3 := restToks_ok h2 hr
          refine ⟨⟨?_, hinv.1, ?_⟩, ?_⟩
          · simp only [afterLine]; split <;> omega
          · simp only [afterLine]; split <;> omega
          · simp only [afterLine]; split <;> omega

/-- Any number of rounds that is enough gives the same. -/
theorem runLines_fuel {s : ByteArray} : ∀ {f g : Nat} {σ : LexSt}, Inv s σ → s.size - σ.at_ ≤ f → s.size - σ.at_ ≤ g → runLines s f σ = runLines s g σ
  | 0, 0, σ, _, _, _ => rfl
  | 0, g + 1, σ, _, h, _ => by
    have : ¬ σ.at_ < s.size := by omega
    simp [runLines, this]
  | f + 1, 0, σ, _, _, h => by
    have : ¬ σ.at_ < s.size := by omega
    simp [runLines, this]
  | f + 1, g + 1, σ, I, h1, h2 => by
    unfold runLines
    split
    · rename_i hlt
      cases hl : lineStep s σ with
      | error e => rfl
      | ok σ' =>
        have hi := lineStep_inv I hlt hl
        exact runLines_fuel hi.1 (by omega) (by omega)
    · rfl
theorem runLines_go {s : ByteArray} {σ σ' : LexSt} (I : Inv s σ) (hlt : σ.at_ < s.size) (h : lineStep s σ = .ok σ') : runLines s (s.size - σ.at_) σ = runLines s (s.size - σ'.at_) σ' := by
  obtain ⟨f, hf⟩ : ∃ f, s.size - σ.at_ = f + 1 := ⟨s.size - σ.at_ - 1, by omega⟩
  have hi := lineStep_inv I hlt h
  rw [hf]
  have e : runLines s (f + 1) σ = runLines s f σ' := by simp only [runLines, hlt, if_true, h]
  rw [e]
  exact runLines_fuel hi.1 (by omega) (Nat.le_refl _)
theorem runLines_err {s : ByteArray} {σ : LexSt} {e : Nat} (hlt : σ.at_ < s.size) (h : lineStep s σ = .error e) : runLines s (s.size - σ.at_) σ = .error e := by
  obtain ⟨f, hf⟩ : ∃ f, s.size - σ.at_ = f + 1 := ⟨s.size - σ.at_ - 1, by omega⟩
  rw [hf]
  simp only [runLines, hlt, if_true, h]
theorem runLines_end {s : ByteArray} {σ : LexSt} (h : ¬ σ.at_ < s.size) : runLines s (s.size - σ.at_) σ = .ok σ := by
  have : s.size - σ.at_ = 0 := by omega
  rw [this]
  rfl
theorem inv0 (s : ByteArray) : Inv s ⟨0, [0], 0, []⟩ := ⟨Nat.zero_le _, rfl, by simp⟩
end Go.Proofs.YtpidanllncneaaaGreatDoor
