/- Package lex: the walk of a line with tokens. -/
import Derived.Test.YtajkahckmhipkaaGreatDoorLexLToLexO
import Derived.Recover
import Derived.Defers
import Derived.Laws.Pointers
namespace Go.Proofs.YtajkahckmhipkaaGreatDoor
open Go.RowKit

theorem lineStep_settle {s : ByteArray} {σ : LexSt} (h : endsB s (skipTo s σ.at_) = false) (h1 : settleP σ.st ((blanksTo s σ.at_ : Nat) - (σ.at_ : Int)) (skipTo s σ.at_) σ.n σ.tk = none) : lineStep s σ = .error (skipTo s σ.at_) := by
  simp only [lineStep, h, Bool.false_eq_true, if_false, h1]
theorem lineStep_tok {s : ByteArray} {σ : LexSt} {x : List Int × Nat × List Value} (h : endsB s (skipTo s σ.at_) = false) (h1 : settleP σ.st ((blanksTo s σ.at_ : Nat) - (σ.at_ : Int)) (skipTo s σ.at_) σ.n σ.tk = some x) (h2 : tokAt s (skipTo s σ.at_) = none) : lineStep s σ = .error (skipTo s σ.at_) := by
  simp only [lineStep, h, Bool.false_eq_true, if_false, h1, h2]
theorem lineStep_rest {s : ByteArray} {σ : LexSt} {st' : List Int} {n' : Nat} {tk' : List Value} {k t : ByteArray} {j e : Nat} (h : endsB s (skipTo s σ.at_) = false) (h1 : settleP σ.st ((blanksTo s σ.at_ : Nat) - (σ.at_ : Int)) (skipTo s σ.at_) σ.n σ.tk = some (st', n', tk')) (h2 : tokAt s (skipTo s σ.at_) = some (k, t, j)) (h3 : restToks s (s.size + 1 - j) j (tk' ++ tokCells k t (skipTo s σ.at_)) (n' + 1) = .error e) : lineStep s σ = .error e := by
  simp only [lineStep, h, Bool.false_eq_true, if_false, h1, h2, h3]
theorem lineStep_ok {s : ByteArray} {σ : LexSt} {st' : List Int} {n' : Nat} {tk' : List Value} {k t : ByteArray} {j e : Nat} {tk2 : List Value} {n2 : Nat} (h : endsB s (skipTo s σ.at_) = false) (h1 : settleP σ.st ((blanksTo s σ.at_ : Nat) - (σ.at_ : Int)) (skipTo s σ.at_) σ.n σ.tk = some (st', n', tk')) (h2 : tokAt s (skipTo s σ.at_) = some (k, t, j)) (h3 : restToks s (s.size + 1 - j) j (tk' ++ tokCells k t (skipTo s σ.at_)) (n' + 1) = .ok (e, tk2, n2)) : lineStep s σ = .ok ⟨afterLine s e, st', n2 + 1, tk2 ++ tokCells kNewline ⟨#[]⟩ e⟩ := by
  simp only [lineStep, h, Bool.false_eq_true, if_false, h1, h2, h3]

set_option maxHeartbeats 2000000 in
theorem line_toks (B p : Nat) (s : ByteArray) (σ : LexSt) (a0 : Addr) (w : World) (h : RS B p s σ.at_ σ.st.reverse σ.n σ.tk w) (E : Env B a0 w) (I : Inv s σ) (he : endsB s (skipTo s σ.at_) = false) :
    Calls Tryz.prog 29 #[.pointer (some ⟨p, 0, none⟩)] w fun ev w' => LPost B p s σ a0 w ev w' := by
  have hs := h.hA.hs
  have hb := blanksTo_le s σ.at_ h.hA.hat
  have hsk := skipTo_le s σ.at_ h.hA.hat
  have hlt : skipTo s σ.at_ < s.size := tokAt_le he
  have hse : skipTo s σ.at_ = blanksTo s σ.at_ := skip_eq he
  have HE : Hid (endsB s (skipTo s σ.at_) = false) := he
  have HSE : Hid (skipTo s σ.at_ = blanksTo s σ.at_) := hse
  have hcnt := I.cnt
  have hIa := I.hat
  clear he hse
  have hB : B ≤ w.heap.size := by have := h.hp; have := h.hpl; omega
  go_enter Tryz.func29, Tryz.ntmps29
  go_wp2_with fail
  refine (passBlanks_any p s σ.at_ w h.hA).mono ?_
  rintro ev w1 ⟨rfl, hm1⟩
  have h1 := h.went hm1.went hb.2
  go_wp2_with fail
  refine (lineEnds_any p s _ w1 h1.hA).mono ?_
  rintro ev w2 ⟨rfl, hm2⟩
  rw [show endsB s (commentTo s (blanksTo s σ.at_)) = false from HE.out]
  have h2 : RS B p s (skipTo s σ.at_) σ.st.reverse σ.n σ.tk w2 := h1.went hm2.went hsk.2
  have hm : Moved p w w2 (skipTo s σ.at_) := hm1.trans hm2
  have hb2 : Below B w w2 := hm.below h.hp
  have E2 := E.below hb2
  clear hm1 hm2 h1 hm
  go_wp2_with fail
  refine (settle_any B p s (skipTo s σ.at_) σ.st _ σ.n σ.tk a0 w2 h2 E2 I.last (by omega) (by omega) (by omega)).mono ?_
  intro ev w3 hq
  unfold StPost at hq
  cases hst : settleP σ.st ((blanksTo s σ.at_ : Nat) - (σ.at_ : Int)) (skipTo s σ.at_) σ.n σ.tk with
  | none =>
    rw [hst] at hq
    have HL : Hid (lineStep s σ = .error (skipTo s σ.at_)) := lineStep_settle HE.out hst
    clear hst
    obtain ⟨b, rfl, t1, t2, t3⟩ := hq
    go_wp2
    exact ⟨rfl, LPost.err HL.out ⟨b, rfl, hb2.trans t1, t2, t3⟩⟩
  | some x =>
    obtain ⟨st', n', tk'⟩ := x
    rw [hst] at hq
    obtain ⟨rfl, h3, hb3⟩ := hq
    have hinv := settleP_inv hst I.last
    have hb3w := hb2.trans hb3
    have E3 := E.below hb3w
    have HST : Hid (settleP σ.st ((blanksTo s σ.at_ : Nat) - (σ.at_ : Int)) (skipTo s σ.at_) σ.n σ.tk = some (st', n', tk')) := hst
    clear hst
    go_wp2_with fail
    refine (token_any B p (skipTo s σ.at_) s st'.reverse n' tk' a0 w3 h3 E3 hlt (by omega)).mono ?_
    intro ev w4 hq
    unfold TPost at hq
    cases htk : tokAt s (skipTo s σ.at_) with
    | none =>
      rw [htk] at hq
      have HL : Hid (lineStep s σ = .error (skipTo s σ.at_)) := lineStep_tok HE.out HST.out htk
      clear htk
      obtain ⟨b, rfl, t1, t2, t3⟩ := hq
      go_wp2
      exact ⟨rfl, LPost.err HL.out ⟨b, rfl, hb3w.trans t1, t2, t3⟩⟩
    | some y =>
      obtain ⟨k, t, j⟩ := y
      rw [htk] at hq
      obtain ⟨rfl, h4, hb4, hj⟩ := hq
      have hjlt := tokAt_lt htk
      have hb4w := hb3w.trans hb4
      have E4 := E.below hb4w
      have HTK : Hid (tokAt s (skipTo s σ.at_) = some (k, t, j)) := htk
      clear htk h2 h3 hb2 hb3 hb4 E2 E3 hb3w
      have hbj := blanksTo_le s j hj
      go_wp2_with fail
      refine (passBlanks_any p s j w4 h4.hA).mono ?_
      rintro ev w5 ⟨rfl, hm5⟩
      have h5 := h4.went hm5.went hbj.2
      have hb5w := hb4w.trans (hm5.below h.hp)
      clear h4 hm5 hb4w E4
      go_wp2_with fail
      go_loopg [] (s.size - j) (fun gk wr => ∃ (i : Nat) (tk1 : List Value) (n1 : Nat), gk = s.size - i ∧ j ≤ i ∧ i ≤ s.size ∧ n1 + j ≤ n' + 1 + i ∧ restToks s (s.size + 1 - i) i tk1 n1 = restToks s (s.size + 1 - j) j (tk' ++ tokCells k t (skipTo s σ.at_)) (n' + 1) ∧ RS B p s (blanksTo s i) st'.reverse n1 tk1 wr ∧ Below B w wr)
      case atStart => exact ⟨j, _, _, rfl, Nat.le_refl _, hj, by omega, rfl, h5, hb5w⟩
      case round =>
        obtain ⟨i, tk1, n1, hgk, hji, his, hn1, hrs, hr, hbr⟩ := hrel
        have HG : Hid (gk = s.size - i) := hgk
        have HR : Hid (restToks s (s.size + 1 - i) i tk1 n1 = restToks s (s.size + 1 - j) j (tk' ++ tokCells k t (skipTo s σ.at_)) (n' + 1)) := hrs
        clear hgk hrs h5 hb5w
        have hski := skipTo_le s i his
        have hatr := hr.hA.hat
        go_wp2_with fail
        refine (lineEnds_any p s _ wr hr.hA).mono ?_
        rintro ev w6 ⟨rfl, hm6⟩
        have h6 : RS B p s (skipTo s i) st'.reverse n1 tk1 w6 := hr.went hm6.went hski.2
        have hb6 : Below B w w6 := hbr.trans (hm6.below h.hp)
        have hB6 : B ≤ w6.heap.size := Nat.le_trans hB hb6.size
        have E6 := E.below hb6
        clear hr hbr hm6
        cases hen : endsB s (skipTo s i)
        · rw [show endsB s (commentTo s (blanksTo s i)) = false from hen]
          have hlt6 := tokAt_le hen
          have HEN : Hid (endsB s (skipTo s i) = false) := hen
          clear hen
          go_wp2_with fail
          refine (token_any B p (skipTo s i) s st'.reverse n1 tk1 a0 w6 h6 E6 hlt6 (by omega)).mono ?_
          intro ev w7 hq
          unfold TPost at hq
          cases htk : tokAt s (skipTo s i) with
          | none =>
            rw [htk] at hq
            have HL : Hid (lineStep s σ = .error (skipTo s i)) := lineStep_rest HE.out HST.out HTK.out (HR.out.symm.trans (restToks_none his HEN.out htk))
            clear htk
            obtain ⟨b, rfl, t1, t2, t3⟩ := hq
            go_wp2
            exact ⟨rfl, LPost.err HL.out ⟨b, rfl, hb6.trans t1, t2, t3⟩⟩
          | some z =>
            obtain ⟨k2, t2, j2⟩ := z
            rw [htk] at hq
            obtain ⟨rfl, h7, hb7, hj2⟩ := hq
            have hj2lt := tokAt_lt htk
            have hgo := restToks_go (tk := tk1) (n := n1) his HEN.out htk
            have HGO : Hid (restToks s (s.size + 1 - i) i tk1 n1 = restToks s (s.size + 1 - j2) j2 (tk1 ++ tokCells k2 t2 (skipTo s i)) (n1 + 1)) := hgo
            clear htk hgo
            have hb7w := hb6.trans hb7
            have hbj2 := blanksTo_le s j2 hj2
            go_wp2_with fail
            refine (passBlanks_any p s j2 w7 h7.hA).mono ?_
            rintro ev w8 ⟨rfl, hm8⟩
            have h8 := h7.went hm8.went hbj2.2
            have hb8 := hb7w.trans (hm8.below h.hp)
            clear h7 hm8 hb7 hb7w h6 E6 hb6
            go_wp2_with fail
            go_roundg (s.size - j2)
            case measure => have := HG.out; omega
            case rel => exact ⟨j2, _, _, rfl, by omega, hj2, by omega, HGO.out.symm.trans HR.out, h8, hb8⟩
        · rw [show endsB s (commentTo s (blanksTo s i)) = true from hen]
          have HL : Hid (lineStep s σ = .ok ⟨afterLine s (skipTo s i), st', n1 + 1, tk1 ++ tokCells kNewline ⟨#[]⟩ (skipTo s i)⟩) := lineStep_ok HE.out HST.out HTK.out (HR.out.symm.trans (restToks_stop his hen))
          clear hen
          have hatc := h6.hA.c1
          go_wp2_with fail
          refine (add_any B p s (skipTo s i) st'.reverse n1 tk1 w6 _ _ (skipTo s i) h6 hB6 (by omega)).mono ?_
          rintro ev w7 ⟨rfl, h7, hb7⟩
          have hb7w := hb6.trans hb7
          clear hatc h6 hb7
          generalize hse : skipTo s i = e at h7 hski HL ⊢
          obtain ⟨_, _, c0, c1, f1⟩ := h7.hA
          clear hse
          by_cases hle : e < s.size
          · have hI : (e : Int) < (s.size : Int) := by omega
            go_wp2_with fail
            go_quiet (fail)
            go_wp2_with fail
            go_end0
            have hm8 := ((Moved.refl c1).drewN nq).trans (Moved.set ((Moved.refl c1).drewN nq).at_ (e + 1))
            refine LPost.ok HL.out ?_ (hb7w.trans (hm8.below h.hp))
            have ea : afterLine s e = e + 1 := by simp [afterLine, hle]
            rw [ea]
            exact h7.went hm8.went (show e + 1 ≤ s.size by omega)
          · have hd : decide ((e : Int) < (s.size : Int)) = false := by simp; omega
            go_wp2_with fail
            go_quiet (fail)
            go_wp2_with fail
            go_end0
            have hm8 := (Moved.refl c1).drewN nq
            refine LPost.ok HL.out ?_ (hb7w.trans (hm8.below h.hp))
            have ea : afterLine s e = e := by simp [afterLine, hle]
            rw [ea]
            exact h7.went hm8.went hski.2
end Go.Proofs.YtajkahckmhipkaaGreatDoor

/- Package lex: the deferred closure of Lex, by its two contracts. -/
namespace Go.Proofs.YtajkahckmhipkaaGreatDoor
open Go.RowKit

theorem assertFault (f : Addr) (xT : TypeId) (w : World) : (Instr.typeAssert (.iface 58 (.pointer (some f))) xT 58 true).run Tryz.prog w = .ok (.tuple #[.pointer (some f), .bool true]) w := by kernel_rfl

set_option maxHeartbeats 400000 in
theorem catch_idle (bl be : Nat) (w : World) :
    CallsD Tryz.prog 28 #[.pointer (some ⟨bl, 0, none⟩), .pointer (some ⟨be, 0, none⟩)] .returning w fun e u' w' => e = .returned (.tuple #[]) ∧ u' = .returning ∧ w' = w := by
  refine callsD_of_wpS Tryz.func28 rfl fun c₀ cs hu => ?_
  apply wpS_seq
  apply wpS_region
  simp [wpOpsS, go_sem, recoverD, hu, Tryz.ntmps28, Exit.thenS]
  apply wpS_seq
  apply wpS_seq
  apply wpS_region
  simp [wpOpsS, go_sem, Exit.thenS]
  refine wpS_cond (t := true) (by simp [Act.eval, Array.replicate]) ?_
  simp only [if_true]
  refine wpS_of_wp (wp_ret ?_)
  cases c₀
  simp_all [bodyPostS, results, Tryz.results28, Exit.thenS]

set_option maxHeartbeats 1000000 in
theorem catch_fault (bl be : Nat) (f : Addr) (older : List PanicEntry) (vl ve : Value) (w : World) (hne : bl ≠ be) (hl : w.cell? ⟨bl, 0, none⟩ = some vl) (hlf : w.frozen? ⟨bl, 0, none⟩ = false) (he : w.cell? ⟨be, 0, none⟩ = some ve) (hef : w.frozen? ⟨be, 0, none⟩ = false) :
    CallsD Tryz.prog 28 #[.pointer (some ⟨bl, 0, none⟩), .pointer (some ⟨be, 0, none⟩)] (.panicking ({ v := .iface 58 (.pointer (some f)), recovered := false } :: older)) w fun e u' w' =>
      e = .returned (.tuple #[]) ∧ u' = .panicking ({ v := .iface 58 (.pointer (some f)), recovered := true } :: older) ∧ w' = (w.setCell ⟨bl, 0, none⟩ (.slice none 0 0)).setCell ⟨be, 0, none⟩ (.iface 58 (.pointer (some f))) := by
  have ha := assertFault f
  have he2 : (w.setCell ⟨bl, 0, none⟩ (.slice none 0 0)).cell? ⟨be, 0, none⟩ = some ve := by rw [World.cell?_of_block (w := w) (a := ⟨be, 0, none⟩) (heap_set _ _ _ _ _ hne.symm)]; exact he
  have hf2 : (w.setCell ⟨bl, 0, none⟩ (.slice none 0 0)).frozen? ⟨be, 0, none⟩ = false := by rw [World.frozen?_of_block (w := w) (a := ⟨be, 0, none⟩) (heap_set _ _ _ _ _ hne.symm)]; exact hef
  refine callsD_of_wpS Tryz.func28 rfl fun c₀ cs hu => ?_
  apply wpS_seq
  apply wpS_region
  simp [wpOpsS, go_sem, recoverD, hu, Tryz.ntmps28, Exit.thenS]
  apply wpS_seq
  apply wpS_seq
  apply wpS_region
  simp [wpOpsS, go_sem, Exit.thenS]
  refine wpS_cond (t := false) (by simp [Act.eval, Array.replicate]) ?_
  simp only [Bool.false_eq_true, if_false]
  refine wpS_of_wp (wp_skip ?_)
  simp only [Exit.thenS]
  apply wpS_seq
  apply wpS_region
  simp [wpOpsS, go_sem, Exit.thenS, ha]
  apply wpS_seq
  apply wpS_seq
  apply wpS_region
  simp [wpOpsS, go_sem, Exit.thenS]
  refine wpS_cond (t := false) (by simp [Act.eval, Array.replicate]) ?_
  simp only [Bool.false_eq_true, if_false]
  refine wpS_of_wp (wp_skip ?_)
  simp only [Exit.thenS]
  apply wpS_region
  simp [wpOpsS, go_sem, hl, hlf, he2, hf2, bodyPostS, results, Tryz.results28]
end Go.Proofs.YtajkahckmhipkaaGreatDoor

/- Package lex: what Lex comes to, and its walk. -/
namespace Go.Proofs.YtajkahckmhipkaaGreatDoor
open Go.RowKit

def kEnd : ByteArray := ⟨#[101, 110, 100]⟩

/-- All lines. -/
def runLines (s : ByteArray) : Nat → LexSt → Except Nat LexSt
  | 0, σ => .ok σ
  | f + 1, σ => if σ.at_ < s.size then (match lineStep s σ with | .ok σ' => runLines s f σ' | .error e => .error e) else .ok σ

/-- What Lex comes to, at a program that is not too long: how many tokens and their cells, or where there is none. -/
def lexP (s : ByteArray) : Except Nat (Nat × List Value) :=
  match runLines s s.size ⟨0, [0], 0, []⟩ with
  | .error e => .error e
  | .ok σ => match settleP σ.st 0 σ.at_ σ.n σ.tk with
    | none => .error σ.at_
    | some (_, n', tk') => .ok (n' + 1, tk' ++ tokCells kEnd ⟨#[]⟩ σ.at_)

theorem restToks_ok {s : ByteArray} : ∀ {f i : Nat} {tk : List Value} {n e : Nat} {tk2 : List Value} {n2 : Nat}, i ≤ s.size → restToks s f i tk n = .ok (e, tk2, n2) → i ≤ e ∧ e ≤ s.size ∧ n2 + i ≤ n + e
  | 0, i, tk, n, e, tk2, n2, hi, h => by simp [restToks] at h
  | f + 1, i, tk, n, e, tk2, n2, hi, h => by
    have hsk := skipTo_le s i hi
    unfold restToks at h
    split at h
    · simp at h
      obtain ⟨rfl, rfl, rfl⟩ := h
      exact ⟨hsk.1, hsk.2, by omega⟩
    · cases ht : tokAt s (skipTo s i) with
      | none => rw [ht] at h; cases h
      | some x =>
        obtain ⟨k, t, j⟩ := x
        rw [ht] at h
        have h1 := tokAt_lt ht
        have h2 := tokAt_bd ht
        have := restToks_ok h2 h
        omega

theorem lineStep_inv {s : ByteArray} {σ σ' : LexSt} (I : Inv s σ) (hlt : σ.at_ < s.size) (h : lineStep s σ = .ok σ') : Inv s σ' ∧ σ.at_ < σ'.at_ := by
  have hsk := skipTo_le s σ.at_ I.hat
  have hc := I.cnt
  unfold lineStep at h
  split at h
  · simp only [Except.ok.injEq] at h
    subst h
    refine ⟨⟨?_, I.last, ?_⟩, ?_⟩
    · simp only [afterLine]; split <;> omega
    · simp only [afterLine]; split <;> omega
    · simp only [afterLine]; split <;> omega
  · cases hst : settleP σ.st ((blanksTo s σ.at_ : Nat) - (σ.at_ : Int)) (skipTo s σ.at_) σ.n σ.tk with
    | none => rw [hst] at h; cases h
    | some x =>
      obtain ⟨st', n', tk'⟩ := x
      rw [hst] at h
      have hinv := settleP_inv hst I.last
      cases htk : tokAt s (skipTo s σ.at_) with
      | none => rw [htk] at h; cases h
      | some y =>
        obtain ⟨k, t, j⟩ := y
        rw [htk] at h
        have h1 := tokAt_lt htk
        have h2 := tokAt_bd htk
        simp only at h
        cases hr : restToks s (s.size + 1 - j) j (tk' ++ tokCells k t (skipTo s σ.at_)) (n' + 1) with
        | error e => rw [hr] at h; cases h
        | ok z =>
          obtain ⟨e, tk2, n2⟩ := z
          rw [hr] at h
          simp only [Except.ok.injEq] at h
          subst h
          have h3 := restToks_ok h2 hr
          refine ⟨⟨?_, hinv.1, ?_⟩, ?_⟩
          · simp only [afterLine]; split <;> omega
          · simp only [afterLine]; split <;> omega
          · simp only [afterLine]; split <;> omega

/-- Any number of rounds that is enough gives the same. -/
theorem runLines_fuel {s : ByteArray} : ∀ {f g : Nat} {σ : LexSt}, Inv s σ → s.size - σ.at_ ≤ f → s.size - σ.at_ ≤ g → runLines s f σ = runLines s g σ
  | 0, 0, σ, _, _, _ => rfl
  | 0, g + 1, σ, _, h, _ => by
    have : ¬ σ.at_ < s.size := by omega
    simp [runLines, this]
  | f + 1, 0, σ, _, _, h => by
    have : ¬ σ.at_ < s.size := by omega
    simp [runLines, this]
  | f + 1, g + 1, σ, I, h1, h2 => by
    unfold runLines
    split
    · rename_i hlt
      cases hl : lineStep s σ with
      | error e => rfl
      | ok σ' =>
        have hi := lineStep_inv I hlt hl
        exact runLines_fuel hi.1 (by omega) (by omega)
    · rfl
theorem runLines_go {s : ByteArray} {σ σ' : LexSt} (I : Inv s σ) (hlt : σ.at_ < s.size) (h : lineStep s σ = .ok σ') : runLines s (s.size - σ.at_) σ = runLines s (s.size - σ'.at_) σ' := by
  obtain ⟨f, hf⟩ : ∃ f, s.size - σ.at_ = f + 1 := ⟨s.size - σ.at_ - 1, by omega⟩
  have hi := lineStep_inv I hlt h
  rw [hf]
  have e : runLines s (f + 1) σ = runLines s f σ' := by simp only [runLines, hlt, if_true, h]
  rw [e]
  exact runLines_fuel hi.1 (by omega) (Nat.le_refl _)
theorem runLines_err {s : ByteArray} {σ : LexSt} {e : Nat} (hlt : σ.at_ < s.size) (h : lineStep s σ = .error e) : runLines s (s.size - σ.at_) σ = .error e := by
  obtain ⟨f, hf⟩ : ∃ f, s.size - σ.at_ = f + 1 := ⟨s.size - σ.at_ - 1, by omega⟩
  rw [hf]
  simp only [runLines, hlt, if_true, h]
theorem runLines_end {s : ByteArray} {σ : LexSt} (h : ¬ σ.at_ < s.size) : runLines s (s.size - σ.at_) σ = .ok σ := by
  have : s.size - σ.at_ = 0 := by omega
  rw [this]
  rfl
theorem inv0 (s : ByteArray) : Inv s ⟨0, [0], 0, []⟩ := ⟨Nat.zero_le _, rfl, by simp⟩
end Go.Proofs.YtajkahckmhipkaaGreatDoor
