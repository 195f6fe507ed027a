/- The document's memory against the program's: plain laws. -/
import Derived.Test.YtopcpeemibmgbaaDoorMemRC
namespace Go.Proofs.YtopcpeemibmgbaaDoor
open Go.RowKit

/-- A walk with a test is a walk, and the test of all. -/
theorem walkP_all {F : Nat → Int} {G : Nat → Bool} : ∀ {n f t : Nat}, walkP F G n f t = (walkP F (fun _ => true) n f t).bind fun l => if l.all G then some l else none
  | 0, f, t => by simp [walkP]
  | n + 1, f, t => by
    rw [walkP, walkP]
    by_cases h1 : f < t
    · rw [if_pos h1, if_pos h1]
      by_cases h2 : (headB (F f) && (decide (f + 1 + szN (F f) ≤ t) && true)) = true
      · rw [if_pos h2, walkP_all (n := n)]
        have h3 : headB (F f) = true ∧ f + 1 + szN (F f) ≤ t := by simpa using h2
        cases hw : walkP F (fun _ => true) n (f + 1 + szN (F f)) t with
        | none => simp
        | some l =>
          cases hg : G f with
          | true =>
            rw [if_pos (by rw [h3.1, decide_eq_true h3.2]; rfl)]
            simp [hg]
          | false =>
            rw [if_neg (by simp)]
            simp [hg]
      · rw [if_neg h2]
        have h3 : ¬ (headB (F f) = true ∧ f + 1 + szN (F f) ≤ t) := by simpa using h2
        rw [if_neg (fun h => h3 (by
          simp only [Bool.and_eq_true, decide_eq_true_eq] at h
          exact ⟨h.1, h.2.1⟩))]
        rfl
    · rw [if_neg h1, if_neg h1]
      rfl
theorem walkP_some {F : Nat → Int} {G : Nat → Bool} {n f t : Nat} {l : List Nat} : walkP F G n f t = some l ↔ walkP F (fun _ => true) n f t = some l ∧ l.all G = true := by
  rw [walkP_all]
  cases walkP F (fun _ => true) n f t with
  | none => simp
  | some l' =>
    simp only [Option.bind_some, Option.some.injEq]
    cases ha : l'.all G with
    | true =>
      rw [if_pos rfl]
      simp only [Option.some.injEq]
      exact ⟨fun h => ⟨h, h ▸ ha⟩, fun h => h.1⟩
    | false =>
      rw [if_neg (by simp)]
      exact ⟨fun h => (by cases h), fun h => absurd (h.1 ▸ h.2) (by rw [ha]; simp)⟩
theorem walkP_isSome {F : Nat → Int} {G : Nat → Bool} {n f t : Nat} {l : List Nat} (h : walkP F (fun _ => true) n f t = some l) : (walkP F G n f t).isSome = l.all G := by
  rw [walkP_all, h]
  simp only [Option.bind_some]
  cases ha : l.all G with
  | true => simp
  | false => simp
/-- Objects of a walk begin where it goes. -/
theorem walkP_lt {F : Nat → Int} {G : Nat → Bool} : ∀ {n f t : Nat} {l : List Nat}, walkP F G n f t = some l → ∀ v ∈ l, f ≤ v ∧ v + 1 + szN (F v) ≤ t
  | 0, f, t, l, h => by unfold walkP at h; cases h; intro v hv; cases hv
  | n + 1, f, t, l, h => by
    unfold walkP at h
    split at h
    · split at h
      · rename_i h1 h2
        obtain ⟨l', h', rfl⟩ := Option.map_eq_some_iff.1 h
        have h3 : f + 1 + szN (F f) ≤ t := by
          simp only [Bool.and_eq_true, decide_eq_true_eq] at h2
          exact h2.2.1
        intro v hv
        rcases List.mem_cons.1 hv with rfl | hv
        · exact ⟨Nat.le_refl _, h3⟩
        · have := walkP_lt h' v hv
          exact ⟨by omega, this.2⟩
      · cases h
    · cases h; intro v hv; cases hv
theorem objI_pos {vs : List Nat} {x : Int} : 0 ≤ objI vs x ↔ ∃ v ∈ vs, (v : Int) = x := by
  unfold objI
  cases h : vs.findIdx? (fun v : Nat => (v : Int) == x) with
  | none =>
    rw [List.findIdx?_eq_none_iff] at h
    constructor
    · intro h'; simp at h'
    · rintro ⟨v, hv, e⟩
      have := h v hv
      simp at this
      exact absurd e this
  | some i =>
    rw [List.findIdx?_eq_some_iff_getElem] at h
    obtain ⟨hl, e, _⟩ := h
    constructor
    · intro _
      exact ⟨vs[i], List.getElem_mem hl, by simpa using e⟩
    · intro _
      simp
theorem fieldR_eq {vs : List Nat} {nW : Nat} (hv : ∀ v ∈ vs, v < nW) (hn : nW ≤ 300000) {x : Int} (h0 : 0 ≤ x) : fieldR vs x = fieldB nW (fun i => decide (i ∈ vs)) x := by
  unfold fieldR fieldB
  by_cases c0 : x % 4 = 0
  · rw [if_pos c0, if_neg (by omega), if_neg (by omega)]
    by_cases cz : x = 0
    · subst cz; rfl
    have hz : (x == 0) = false := by rw [beq_eq_false_iff_ne]; exact cz
    rw [hz, Bool.false_or, Bool.false_or]
    unfold ptrB
    rw [decide_eq_true (And.intro c0 (by omega : 4 ≤ x)), Bool.true_and]
    show _ = (decide ((x / 4 - 1).toNat < nW) && decide ((x / 4 - 1).toNat ∈ vs))
    by_cases hm : (x / 4 - 1).toNat ∈ vs
    · have hlt := hv _ hm
      have hp : ptI x = x / 4 - 1 := by unfold ptI; rw [if_pos ⟨c0, by omega, by omega⟩]
      rw [hp, decide_eq_true hlt, decide_eq_true hm, decide_eq_true (by omega : 0 ≤ x / 4 - 1), decide_eq_true (objI_pos.2 ⟨_, hm, by omega⟩)]
    · rw [decide_eq_false hm, Bool.and_false]
      by_cases hp : 0 ≤ ptI x
      · have hp2 : ptI x = x / 4 - 1 := by
          unfold ptI at hp ⊢
          split at hp
          · rename_i hc
            rw [if_pos hc]
          · omega
        have hno : ¬ 0 ≤ objI vs (ptI x) := fun h => by
          obtain ⟨v, hvm, e⟩ := objI_pos.1 h
          rw [hp2] at e
          exact hm (by rw [← e]; simpa using hvm)
        rw [decide_eq_false hno, Bool.and_false]
      · rw [decide_eq_false hp, Bool.false_and]
  · rw [if_neg c0]
    by_cases c1 : x % 4 = 1
    · rw [if_pos c1, if_pos c1]
    · rw [if_neg c1, if_neg c1]
      by_cases c2 : x % 4 = 2
      · rw [if_pos c2, if_pos c2]
      · rw [if_neg c2, if_neg c2]
        have hz : (x == 0) = false := by rw [beq_eq_false_iff_ne]; omega
        rw [hz, Bool.false_or]
        unfold ptrB
        rw [decide_eq_false (fun h => c0 h.1), Bool.false_and]
end Go.Proofs.YtopcpeemibmgbaaDoor
