/- The document's memory against the program's: plain laws. -/
import Derived.Test.YtnenggkgfhgcnaaGreatDoorJnS
namespace Go.Proofs.YtnenggkgfhgcnaaGreatDoor
open Go.RowKit

/-- A walk with a test is a walk, and the test of all. -/
theorem walkP_all {F : Nat → Int} {G : Nat → Bool} : ∀ {n f t : Nat}, walkP F G n f t = (walkP F (fun _ => true) n f t).bind fun l => if l.all G then some l else none
  | 0, f, t => by simp [walkP]
  | n + 1, f, t => by
    rw [walkP, walkP]
    by_cases h1 : f < t
    · rw [if_pos h1, if_pos h1]
      by_cases h2 : (headB (F f) && (decide (f + 1 + szN (F f) ≤ t) && true)) = true
      · rw [if_pos h2, walkP_all (n := n)]
        have h3 : headB (F f) = true ∧ f + 1 + szN (F f) ≤ t := by simpa using h2
        cases hw : walkP F (fun _ => true) n (f + 1 + szN (F f)) t with
        | none => simp
        | some l =>
          cases hg : G f with
          | true =>
            rw [if_pos (by rw [h3.1, decide_eq_true h3.2]; rfl)]
            simp [hg]
          | false =>
            rw [if_neg (by simp)]
            simp [hg]
      · rw [if_neg h2]
        have h3 : ¬ (headB (F f) = true ∧ f + 1 + szN (F f) ≤ t) := by simpa using h2
        rw [if_neg (fun h => h3 (by
          simp only [Bool.and_eq_true, decide_eq_true_eq] at h
          exact ⟨h.1, h.2.1⟩))]
        rfl
    · rw [if_neg h1, if_neg h1]
      rfl
theorem walkP_some {F : Nat → Int} {G : Nat → Bool} {n f t : Nat} {l : List Nat} : walkP F G n f t = some l ↔ walkP F (fun _ => true) n f t = some l ∧ l.all G = true := by
  rw [walkP_all]
  cases walkP F (fun _ => true) n f t with
  | none => simp
  | some l' =>
    simp only [Option.bind_some, Option.some.injEq]
    cases ha : l'.all G with
    | true =>
      rw [if_pos rfl]
      simp only [Option.some.injEq]
      exact ⟨fun h => ⟨h, h ▸ ha⟩, fun h => h.1⟩
    | false =>
      rw [if_neg (by simp)]
      exact ⟨fun h => (by cases h), fun h => absurd (h.1 ▸ h.2) (by rw [ha]; simp)⟩
theorem walkP_isSome {F : Nat → Int} {G : Nat → Bool} {n f t : Nat} {l : List Nat} (h : walkP F (fun _ => true) n f t = some l) : (walkP F G n f t).isSome = l.all G := by
  rw [walkP_all, h]
  simp only [Option.bind_some]
  cases ha : l.all G with
  | true => simp
  | false => simp
/-- Objects of a walk begin where it goes. -/
theorem walkP_lt {F : Nat → Int} {G : Nat → Bool} : ∀ {n f t : Nat} {l : List Nat}, walkP F G n f t = some l → ∀ v ∈ l, f ≤ v ∧ v + 1 + szN (F v) ≤ t
  | 0, f, t, l, h => by unfold walkP at h; cases h; intro v hv; cases hv
  | n + 1, f, t, l, h => by
    unfold walkP at h
    split at h
    · split at h
      · rename_i h1 h2
        obtain ⟨l', h', rfl⟩ := Option.map_eq_some_iff.1 h
        have h3 : f + 1 + szN (F f) ≤ t := by
          simp only [Bool.and_eq_true, decide_eq_true_eq] at h2
          exact h2.2.1
        intro v hv
        rcases List.mem_cons.1 hv with rfl | hv
        · exact ⟨Nat.le_refl _, h3⟩
        · have := walkP_lt h' v hv
          exact ⟨by omega, this.2⟩
      · cases h
    · cases h; intro v hv; cases hv
theorem objI_pos {vs : List Nat} {x : Int} : 0 ≤ objI vs x ↔ ∃ v ∈ vs, (v : Int) = x := by
  unfold objI
  cases h : vs.findIdx? (fun v : Nat => (v : Int) == x) with
  | none =>
    rw [List.findIdx?_eq_none_iff] at h
    constructor
    · intro h'; simp at h'
    · rintro ⟨v, hv, e⟩
      have := h v hv
      simp at this
      exact absurd e this
  | some i =>
    rw [List.findIdx?_eq_some_iff_getElem] at h
    obtain ⟨hl, e, _⟩ := h
    constructor
    · intro _
      exact ⟨vs[i], List.getElem_mem hl, by simpa using e⟩
    · intro _
      simp
theorem fieldR_eq {vs : List Nat} {nW : Nat} (hv : ∀ v ∈ vs, v < nW) (hn : nW ≤ 300000) {x : Int} (h0 : 0 ≤ x) : fieldR vs x = fieldB nW (fun i => decide (i ∈ vs)) x := by
  unfold fieldR fieldB
  by_cases c0 : x % 4 = 0
  · rw [if_pos c0, if_neg (by omega), if_neg (by omega)]
    by_cases cz : x = 0
    · subst cz; rfl
    have hz : (x == 0) = false := by rw [beq_eq_false_iff_ne]; exact cz
    rw [hz, Bool.false_or, Bool.false_or]
    unfold ptrB
    rw [decide_eq_true (And.intro c0 (by omega : 4 ≤ x)), Bool.true_and]
    show _ = (decide ((x / 4 - 1).toNat < nW) && decide ((x / 4 - 1).toNat ∈ vs))
    by_cases hm : (x / 4 - 1).toNat ∈ vs
    · have hlt := hv _ hm
      have hp : ptI x = x / 4 - 1 := by unfold ptI; rw [if_pos ⟨c0, by omega, by omega⟩]
      rw [hp, decide_eq_true hlt, decide_eq_true hm, decide_eq_true (by omega : 0 ≤ x / 4 - 1), decide_eq_true (objI_pos.2 ⟨_, hm, by omega⟩)]
    · rw [decide_eq_false hm, Bool.and_false]
      by_cases hp : 0 ≤ ptI x
      · have hp2 : ptI x = x / 4 - 1 := by
          unfold ptI at hp ⊢
          split at hp
          · rename_i hc
            rw [if_pos hc]
          · omega
        have hno : ¬ 0 ≤ objI vs (ptI x) := fun h => by
          obtain ⟨v, hvm, e⟩ := objI_pos.1 h
          rw [hp2] at e
          exact hm (by rw [← e]; simpa using hvm)
        rw [decide_eq_false hno, Bool.and_false]
      · rw [decide_eq_false hp, Bool.false_and]
  · rw [if_neg c0]
    by_cases c1 : x % 4 = 1
    · rw [if_pos c1, if_pos c1]
    · rw [if_neg c1, if_neg c1]
      by_cases c2 : x % 4 = 2
      · rw [if_pos c2, if_pos c2]
      · rw [if_neg c2, if_neg c2]
        have hz : (x == 0) = false := by rw [beq_eq_false_iff_ne]; omega
        rw [hz, Bool.false_or]
        unfold ptrB
        rw [decide_eq_false (fun h => c0 h.1), Bool.false_and]
end Go.Proofs.YtnenggkgfhgcnaaGreatDoor

/- The document's memory: what CheckOf answers is what survey says (plain laws). -/
namespace Go.Proofs.YtnenggkgfhgcnaaGreatDoor
open Go.RowKit

/-- What CheckOf asks of an object, in the document's way; and of its cards. -/
def okO (F : Nat → Int) (h : Int) (vs : List Nat) (v : Nat) : Bool := (decide ((v : Int) < 2 * h) || decide (F v / 1024 % 16 = 0)) && (decide (F v / 4 % 256 < 8) || (fieldsP F v).all (fieldR vs))
def cardO (F : Nat → Int) (C : Nat → Bool) (h c : Int) (v : Nat) : Bool := decide ((v : Int) < 2 * h) || (decide (F v / 4 % 256 < 8) || (List.range (szN (F v))).all fun j => cardB F C h c (v + 1 + j))
/-- Is the i-th ID as the document's way asks? -/
def idR (vs : List Nat) (l : List (Int × Int)) (i : Nat) : Bool := match l[i]? with
  | some x => decide (0 ≤ ptI x.1) && (decide (0 ≤ objI vs (ptI x.1)) && (decide (1 ≤ x.2) && (l.take i).all fun y => !(y.1 == x.1) && !(y.2 == x.2)))
  | none => true
/-- What CheckOf answers, where the objects begin there. -/
def MD.fine (m : MD) (vs : List Nat) : Bool := m.R.all (fieldR vs) && (m.K.all (fieldR vs) && (vs.all (okO m.F m.half vs) && (List.range m.I.length).all (idR vs m.I)))
def MD.chk (m : MD) (vs : List Nat) : Int := if m.fine vs then (if vs.all (cardO m.F m.Cf m.half m.card) then 0 else 5) else 3
/-- What CheckOf answers of numbers that fit. -/
def ChkP (m : MD) (n : Int) : Prop := (∃ l1 l2, walkP m.F (G0 m.F) (m.n1 - m.n0) m.n0 m.n1 = some l1 ∧ walkP m.F (G0 m.F) (m.m1 - m.m0) m.m0 m.m1 = some l2 ∧ n = m.chk (l1 ++ l2)) ∨ ((walkP m.F (G0 m.F) (m.n1 - m.n0) m.n0 m.n1 = none ∨ walkP m.F (G0 m.F) (m.m1 - m.m0) m.m0 m.m1 = none) ∧ n = 3)
theorem all_congr {α : Type} {l : List α} {f g : α → Bool} (h : ∀ x ∈ l, f x = g x) : l.all f = l.all g := by
  induction l with
  | nil => rfl
  | cons a l ih => rw [List.all_cons, List.all_cons, h a (List.mem_cons_self ..), ih fun x hx => h x (List.mem_cons_of_mem _ hx)]
theorem ptr_eq {vs : List Nat} {nW : Nat} (hv : ∀ v ∈ vs, v < nW) (hn : nW ≤ 300000) {x : Int} : (decide (0 ≤ ptI x) && decide (0 ≤ objI vs (ptI x))) = ptrB nW (fun i => decide (i ∈ vs)) x := by
  unfold ptrB
  by_cases hc : x % 4 = 0 ∧ 4 ≤ x
  · rw [decide_eq_true hc, Bool.true_and]
    show _ = (decide ((x / 4 - 1).toNat < nW) && decide ((x / 4 - 1).toNat ∈ vs))
    by_cases hm : (x / 4 - 1).toNat ∈ vs
    · have hlt := hv _ hm
      have hp : ptI x = x / 4 - 1 := by unfold ptI; rw [if_pos ⟨hc.1, hc.2, by omega⟩]
      rw [hp, decide_eq_true hlt, decide_eq_true hm, decide_eq_true (by omega : 0 ≤ x / 4 - 1), decide_eq_true (objI_pos.2 ⟨_, hm, by omega⟩)]
    · rw [decide_eq_false hm, Bool.and_false]
      by_cases hp : 0 ≤ ptI x
      · have hp2 : ptI x = x / 4 - 1 := by
          unfold ptI at hp ⊢
          split at hp
          · rename_i hc
            rw [if_pos hc]
          · omega
        have hno : ¬ 0 ≤ objI vs (ptI x) := fun h => by
          obtain ⟨v, hvm, e⟩ := objI_pos.1 h
          rw [hp2] at e
          exact hm (by rw [← e]; simpa using hvm)
        rw [decide_eq_false hno, Bool.and_false]
      · rw [decide_eq_false hp, Bool.false_and]
  · rw [decide_eq_false hc, Bool.false_and]
    have hp : ptI x = -1 := by unfold ptI; rw [if_neg (fun h => hc ⟨h.1, h.2.1⟩)]
    rw [hp]
    rfl
theorem count_last {l : List Int} {i : Nat} {x : Int} (h : l[i]? = some x) : decide ((l.take (i + 1)).count x ≤ 1) = (l.take i).all fun y => !(y == x) := by
  rw [List.take_add_one, h, List.count_append]
  show decide ((l.take i).count x + [x].count x ≤ 1) = _
  rw [List.count_singleton_self]
  by_cases hx : x ∈ l.take i
  · have := List.count_pos_iff.2 hx
    rw [decide_eq_false (by omega)]
    symm
    rw [List.all_eq_false]
    exact ⟨x, hx, by simp⟩
  · rw [List.count_eq_zero.2 hx, decide_eq_true (by omega)]
    symm
    rw [List.all_eq_true]
    intro y hy
    simp only [Bool.not_eq_true', beq_eq_false_iff_ne]
    rintro rfl
    exact hx hy
theorem all_both {α : Type} {l : List α} {f g : α → Bool} : l.all (fun y => f y && g y) = (l.all f && l.all g) := by
  induction l with
  | nil => rfl
  | cons a l ih => rw [List.all_cons, List.all_cons, List.all_cons, ih]; cases f a <;> cases g a <;> cases l.all f <;> rfl
theorem id_eq {vs : List Nat} {nW : Nat} (hv : ∀ v ∈ vs, v < nW) (hn : nW ≤ 300000) (l : List (Int × Int)) (i : Nat) : idR vs l i = idB nW (fun i => decide (i ∈ vs)) l i := by
  unfold idR idB
  cases h : l[i]? with
  | none => rfl
  | some x =>
    show (decide (0 ≤ ptI x.1) && (decide (0 ≤ objI vs (ptI x.1)) && _)) = (ptrB _ _ x.1 && _)
    rw [← Bool.and_assoc, ptr_eq hv hn, List.map_take, List.map_take, count_last (l := l.map (·.1)) (i := i) (x := x.1) (by rw [List.getElem?_map, h]; rfl), count_last (l := l.map (·.2)) (i := i) (x := x.2) (by rw [List.getElem?_map, h]; rfl), ← List.map_take, ← List.map_take, List.all_map, List.all_map, all_both]
    rfl
theorem ok_eq {m : MD} (h64 : MD64 m) {vs : List Nat} (hv : ∀ v ∈ vs, v + 1 + szN (m.F v) ≤ m.W.length) (hn : m.W.length ≤ 300000) : ∀ v ∈ vs, okO m.F m.half vs v = ((decide ((v : Int) < 2 * m.half) || decide (m.F v / 1024 % 16 = 0)) && G2 m.F m.W.length (fun i => decide (i ∈ vs)) v) := fun v hvm => by
  have hv1 : ∀ v ∈ vs, v < m.W.length := fun v h => by have := hv v h; omega
  unfold okO G2
  have : (fieldsP m.F v).all (fieldR vs) = (fieldsP m.F v).all (fieldB m.W.length fun i => decide (i ∈ vs)) := by
    apply all_congr
    intro x hx
    obtain ⟨j, hj, rfl⟩ := List.mem_map.1 hx
    have hj := List.mem_range.1 hj
    have hb := hv v hvm
    apply fieldR_eq hv1 hn
    unfold MD.F
    rw [List.getD_eq_getElem?_getD, List.getElem?_eq_getElem (by omega)]
    exact (h64.w _ (List.getElem_mem _)).1
  rw [this]
theorem ChkP.out {m : MD} {n : Int} (h : ChkP m n) (hF : m.FitsM) (h64 : MD64 m) : (∃ vs, m.Shape vs ∧ m.cardsB = true ∧ n = 0) ∨ (∃ vs, m.Shape vs ∧ m.cardsB = false ∧ n = 5) ∨ ((∀ vs, ¬ m.Shape vs) ∧ n = 3) := by
  have P := MD.parts hF
  have hle := P.le hF
  have hnW : m.W.length ≤ 300000 := by obtain ⟨⟨a0, a1, a2, a3, a4, a5⟩, hw, _⟩ := hF; omega
  have hn1 : (m.n1 : Int) ≤ 2 * m.half := by
    obtain ⟨⟨a0, a1, a2, a3, a4, a5⟩, hw, _, u0, u1, t0, t1, o0, o1⟩ := hF
    have b1 := P.n1
    obtain e | e : m.used = 0 ∨ m.used = 1 := by omega
    · rw [e, Int.zero_mul] at b1; omega
    · rw [e, Int.one_mul] at b1; omega
  have hm0 := P.m0
  rcases h with ⟨l1, l2, e1, e2, rfl⟩ | ⟨hno, rfl⟩
  · have b1 := (walkP_some.1 e1)
    have b2 := (walkP_some.1 e2)
    obtain ⟨vs, hvs⟩ : ∃ vs, vs = l1 ++ l2 := ⟨_, rfl⟩
    have hv : ∀ v ∈ vs, v + 1 + szN (m.F v) ≤ m.W.length := fun v hv => by
      rw [hvs] at hv
      rcases List.mem_append.1 hv with h | h
      · have := (walkP_lt e1 v h).2; omega
      · have := (walkP_lt e2 v h).2; omega
    have hv1 : ∀ v ∈ vs, v < m.W.length := fun v h => by have := hv v h; omega
    have hO : ∀ us, m.objs = some us ↔ us = vs ∧ vs.all (fun f : Nat => decide ((f : Int) < 2 * m.half) || decide (m.F f / 1024 % 16 = 0)) = true := fun us => by
      have k1 : walkP m.F (G1 m.F m.half) (m.n1 - m.n0) m.n0 m.n1 = if l1.all (fun f : Nat => decide ((f : Int) < 2 * m.half) || decide (m.F f / 1024 % 16 = 0)) then some l1 else none := by
        rw [walkP_all, b1.1]
        show (if l1.all (G1 m.F m.half) then some l1 else none) = _
        have : l1.all (G1 m.F m.half) = (l1.all (G0 m.F) && l1.all (fun f : Nat => decide ((f : Int) < 2 * m.half) || decide (m.F f / 1024 % 16 = 0))) := all_both
        rw [this, b1.2, Bool.true_and]
      have k2 : walkP m.F (G1 m.F m.half) (m.m1 - m.m0) m.m0 m.m1 = if l2.all (fun f : Nat => decide ((f : Int) < 2 * m.half) || decide (m.F f / 1024 % 16 = 0)) then some l2 else none := by
        rw [walkP_all, b2.1]
        show (if l2.all (G1 m.F m.half) then some l2 else none) = _
        have : l2.all (G1 m.F m.half) = (l2.all (G0 m.F) && l2.all (fun f : Nat => decide ((f : Int) < 2 * m.half) || decide (m.F f / 1024 % 16 = 0))) := all_both
        rw [this, b2.2, Bool.true_and]
      unfold MD.objs
      rw [k1, k2, hvs, List.all_append]
      cases l1.all _ <;> cases l2.all _ <;> simp
      exact eq_comm
    have hH : m.holdB vs = vs.all (G2 m.F m.W.length fun i => decide (i ∈ vs)) := by
      unfold MD.holdB
      rw [walkP_isSome b1.1, walkP_isSome b2.1, ← List.all_append, ← hvs]
    have hok : vs.all (okO m.F m.half vs) = (vs.all (fun f : Nat => decide ((f : Int) < 2 * m.half) || decide (m.F f / 1024 % 16 = 0)) && m.holdB vs) := by
      rw [hH, ← all_both]
      exact all_congr (ok_eq h64 hv hnW)
    have hre : (m.R.all (fieldR vs) && (m.K.all (fieldR vs) && (List.range m.I.length).all (idR vs m.I))) = m.restB vs := by
      unfold MD.restB idsB
      rw [all_congr (l := m.R) fun x hx => fieldR_eq hv1 hnW (h64.r x hx).1, all_congr (l := m.K) fun x hx => fieldR_eq hv1 hnW (h64.k x hx).1, all_congr (l := List.range m.I.length) fun i _ => id_eq hv1 hnW m.I i]
    have hca : m.cardsB = vs.all (cardO m.F m.Cf m.half m.card) := by
      unfold MD.cardsB
      rw [walkP_isSome b2.1, hvs, List.all_append]
      have c1 : l1.all (cardO m.F m.Cf m.half m.card) = true := by
        rw [List.all_eq_true]
        intro v hv
        have := (walkP_lt e1 v hv).2
        unfold cardO
        rw [decide_eq_true (by omega : (v : Int) < 2 * m.half), Bool.true_or]
      rw [c1, Bool.true_and]
      apply all_congr
      intro v hv
      have := (walkP_lt e2 v hv).1
      unfold cardO G3
      rw [decide_eq_false (by omega : ¬ (v : Int) < 2 * m.half), Bool.false_or]
    have hfi : m.fine vs = (vs.all (fun f : Nat => decide ((f : Int) < 2 * m.half) || decide (m.F f / 1024 % 16 = 0)) && (m.holdB vs && m.restB vs)) := by
      unfold MD.fine
      rw [← hre, hok]
      cases m.R.all _ <;> cases m.K.all _ <;> cases vs.all (fun f : Nat => decide ((f : Int) < 2 * m.half) || decide (m.F f / 1024 % 16 = 0)) <;> cases m.holdB vs <;> rfl
    rw [← hvs]
    unfold MD.chk
    rw [← hca]
    cases hf : m.fine vs with
    | true =>
      rw [hfi] at hf
      simp only [Bool.and_eq_true] at hf
      have S : m.Shape vs := ⟨hF, (hO vs).2 ⟨rfl, hf.1⟩, hf.2.1, hf.2.2⟩
      cases hc : m.cardsB with
      | true => exact .inl ⟨vs, S, rfl, rfl⟩
      | false => exact .inr (.inl ⟨vs, S, rfl, rfl⟩)
    | false =>
      refine .inr (.inr ⟨fun us S => ?_, rfl⟩)
      obtain ⟨rfl, ha⟩ := (hO us).1 S.2.1
      rw [hfi, ha, S.2.2.1, S.2.2.2] at hf
      cases hf
  · refine .inr (.inr ⟨fun vs S => ?_, rfl⟩)
    have ho := S.2.1
    unfold MD.objs at ho
    split at ho
    · rename_i a1 a2 k1 k2
      have c1 := walkP_some.1 k1
      have c2 := walkP_some.1 k2
      have d1 : a1.all (G0 m.F) = true := by
        have : a1.all (G1 m.F m.half) = (a1.all (G0 m.F) && _) := all_both
        rw [this, Bool.and_eq_true] at c1
        exact c1.2.1
      have d2 : a2.all (G0 m.F) = true := by
        have : a2.all (G1 m.F m.half) = (a2.all (G0 m.F) && _) := all_both
        rw [this, Bool.and_eq_true] at c2
        exact c2.2.1
      rcases hno with h | h
      · rw [walkP_some.2 ⟨c1.1, d1⟩] at h; cases h
      · rw [walkP_some.2 ⟨c2.1, d2⟩] at h; cases h
    · cases ho
theorem chk_r {m : MD} {vs : List Nat} (h : m.R.all (fieldR vs) = false) : 3 = m.chk vs := by unfold MD.chk MD.fine; rw [h]; rfl
theorem chk_k {m : MD} {vs : List Nat} (h : m.K.all (fieldR vs) = false) : 3 = m.chk vs := by unfold MD.chk MD.fine; rw [h, Bool.false_and, Bool.and_false]; rfl
theorem chk_o {m : MD} {vs : List Nat} {v : Nat} (hv : v ∈ vs) (h : okO m.F m.half vs v = false) : 3 = m.chk vs := by
  have : vs.all (okO m.F m.half vs) = false := List.all_eq_false.2 ⟨v, hv, by rw [h]; exact Bool.false_ne_true⟩
  unfold MD.chk MD.fine
  rw [this, Bool.false_and, Bool.and_false, Bool.and_false]
  rfl
theorem chk_i {m : MD} {vs : List Nat} {i : Nat} (hi : i < m.I.length) (h : idR vs m.I i = false) : 3 = m.chk vs := by
  have : (List.range m.I.length).all (idR vs m.I) = false := List.all_eq_false.2 ⟨i, List.mem_range.2 hi, by rw [h]; exact Bool.false_ne_true⟩
  unfold MD.chk MD.fine
  rw [this, Bool.and_false, Bool.and_false, Bool.and_false]
  rfl
theorem chk_end {m : MD} {vs : List Nat} {cb : Bool} (h1 : m.R.all (fieldR vs) = true) (h2 : m.K.all (fieldR vs) = true) (h3 : vs.all (okO m.F m.half vs) = true) (h4 : (List.range m.I.length).all (idR vs m.I) = true) (h5 : cb = vs.all (cardO m.F m.Cf m.half m.card)) : (if cb then 0 else 5) = m.chk vs := by
  unfold MD.chk MD.fine
  rw [h1, h2, h3, h4, h5]
  rfl
theorem walkP_head {F : Nat → Int} {G : Nat → Bool} : ∀ {n f t : Nat} {l : List Nat}, walkP F G n f t = some l → ∀ v ∈ l, headB (F v) = true
  | 0, f, t, l, h => by unfold walkP at h; cases h; intro v hv; cases hv
  | n + 1, f, t, l, h => by
    unfold walkP at h
    split at h
    · split at h
      · rename_i h1 h2
        obtain ⟨l', h', rfl⟩ := Option.map_eq_some_iff.1 h
        have h3 : headB (F f) = true := by
          simp only [Bool.and_eq_true, decide_eq_true_eq] at h2
          exact h2.1
        intro v hv
        rcases List.mem_cons.1 hv with rfl | hv
        · exact h3
        · exact walkP_head h' v hv
      · cases h
    · cases h; intro v hv; cases hv
theorem card_ix {m : MD} (hF : m.FitsM) {i : Nat} (h1 : 2 * m.half ≤ (i : Int)) (h2 : i < m.W.length) : ∃ d j : Nat, (i : Int) - 2 * m.half = (d : Int) ∧ (d : Int) / m.card = (j : Int) ∧ j < m.C.length ∧ cardN m.half m.card i = j := by
  have hw := hF.w
  have hc := hF.c
  have hnum := hF.nums
  unfold numsOK at hnum
  have g0 : 0 ≤ ((i : Int) - 2 * m.half) / m.card := Int.ediv_nonneg (by omega) (by omega)
  refine ⟨((i : Int) - 2 * m.half).toNat, (((i : Int) - 2 * m.half) / m.card).toNat, by omega, ?_, ?_, rfl⟩
  · rw [show ((((i : Int) - 2 * m.half).toNat : Nat) : Int) = (i : Int) - 2 * m.half by omega]
    omega
  · have : ((i : Int) - 2 * m.half) / m.card < (m.old + m.card - 1) / m.card := by
      have e : (m.old + m.card - 1) = (m.old - 1) + 1 * m.card := by omega
      rw [e, Int.add_mul_ediv_right _ _ (by omega)]
      have := Int.ediv_le_ediv (c := m.card) (by omega) (show (i : Int) - 2 * m.half ≤ m.old - 1 by omega)
      omega
    omega
theorem MD.Shape.fine {m : MD} {vs : List Nat} (S : m.Shape vs) : ∀ v ∈ vs, headB (m.F v) = true ∧ v + 1 + szN (m.F v) ≤ m.W.length := fun v hv => by
  have hle := (MD.parts S.1).le S.1
  have ho := S.2.1
  unfold MD.objs at ho
  split at ho
  · rename_i l1 l2 e1 e2
    cases ho
    rcases List.mem_append.1 hv with h | h
    · exact ⟨walkP_head e1 v h, by have := (walkP_lt e1 v h).2; omega⟩
    · exact ⟨walkP_head e2 v h, by have := (walkP_lt e2 v h).2; omega⟩
  · cases ho
theorem MD.Shape.one {m : MD} {vs us : List Nat} (S : m.Shape vs) (S' : m.Shape us) : us = vs := by
  have a := S.2.1
  rw [S'.2.1] at a
  cases a
  rfl
theorem MD.Shape.carded {m : MD} {vs : List Nat} (S : m.Shape vs) (hC : m.cardsB = true) {f k : Nat} (hf : f ∈ vs) (hk : k < szN (m.F f)) (hkd : ¬ m.F f / 4 % 256 < 8) (ho : 2 * m.half ≤ ((f + 1 + k : Nat) : Int)) (hy : youngB m.half (m.F (f + 1 + k)) = true) : m.Cf (cardN m.half m.card (f + 1 + k)) = true := by
  have P := MD.parts S.1
  have hn1 : (m.n1 : Int) ≤ 2 * m.half := by
    obtain ⟨⟨a0, a1, a2, a3, a4, a5⟩, hw, _, u0, u1, t0, t1, o0, o1⟩ := S.1
    have b1 := P.n1
    obtain e | e : m.used = 0 ∨ m.used = 1 := by omega
    · rw [e, Int.zero_mul] at b1; omega
    · rw [e, Int.one_mul] at b1; omega
  have hobj := S.2.1
  unfold MD.objs at hobj
  split at hobj
  · rename_i l1 l2 e1 e2
    cases hobj
    rcases List.mem_append.1 hf with h | h
    · have := (walkP_lt e1 f h).2
      omega
    · have b2 := walkP_some.1 e2
      unfold MD.cardsB at hC
      rw [walkP_isSome b2.1] at hC
      have g := List.all_eq_true.1 hC f h
      unfold G3 at g
      rw [decide_eq_false hkd, Bool.false_or] at g
      have c := List.all_eq_true.1 g k (List.mem_range.2 hk)
      unfold cardB at c
      rw [hy, Bool.true_and, Bool.not_not] at c
      exact c
  · cases hobj
/-- Objects of a right memory, in the document's way. -/
theorem MD.Shape.bare {m : MD} {vs : List Nat} (S : m.Shape vs) : ∃ l1 l2, vs = l1 ++ l2 ∧ walkP m.F (G0 m.F) (m.n1 - m.n0) m.n0 m.n1 = some l1 ∧ walkP m.F (G0 m.F) (m.m1 - m.m0) m.m0 m.m1 = some l2 := by
  have ho := S.2.1
  unfold MD.objs at ho
  split at ho
  · rename_i a1 a2 k1 k2
    cases ho
    have c1 := walkP_some.1 k1
    have c2 := walkP_some.1 k2
    have d1 : a1.all (G0 m.F) = true := by
      have : a1.all (G1 m.F m.half) = (a1.all (G0 m.F) && _) := all_both
      rw [this, Bool.and_eq_true] at c1
      exact c1.2.1
    have d2 : a2.all (G0 m.F) = true := by
      have : a2.all (G1 m.F m.half) = (a2.all (G0 m.F) && _) := all_both
      rw [this, Bool.and_eq_true] at c2
      exact c2.2.1
    exact ⟨a1, a2, rfl, walkP_some.2 ⟨c1.1, d1⟩, walkP_some.2 ⟨c2.1, d2⟩⟩
  · cases ho
theorem MD.Shape.few {m : MD} {vs : List Nat} (S : m.Shape vs) : vs.length ≤ 300000 := by
  obtain ⟨l1, l2, e, e1, e2⟩ := S.bare
  have a1 := walkP_len e1
  have a2 := walkP_len e2
  obtain ⟨b0, b1, b2, b3⟩ := MD.parts S.1
  obtain ⟨⟨a0, a1', a2', a3, a4, a5⟩, hw, _, u0, u1, t0, t1, o0, o1⟩ := S.1
  rw [e, List.length_append]
  omega
/-- A field of an object that is not raw may stand there. -/
theorem MD.Shape.held {m : MD} {vs : List Nat} (S : m.Shape vs) {f k : Nat} (hf : f ∈ vs) (hk : k < szN (m.F f)) (hkd : ¬ m.F f / 4 % 256 < 8) : fieldB m.W.length (fun i => decide (i ∈ vs)) (m.F (f + 1 + k)) = true := by
  obtain ⟨l1, l2, e, e1, e2⟩ := S.bare
  have b1 := walkP_some.1 e1
  have b2 := walkP_some.1 e2
  have h := S.2.2.1
  unfold MD.holdB at h
  rw [walkP_isSome b1.1, walkP_isSome b2.1, ← List.all_append, ← e] at h
  have g := List.all_eq_true.1 h f hf
  unfold G2 at g
  rw [decide_eq_false hkd, Bool.false_or] at g
  exact List.all_eq_true.1 g _ (List.mem_map.2 ⟨k, List.mem_range.2 hk, rfl⟩)
end Go.Proofs.YtnenggkgfhgcnaaGreatDoor
