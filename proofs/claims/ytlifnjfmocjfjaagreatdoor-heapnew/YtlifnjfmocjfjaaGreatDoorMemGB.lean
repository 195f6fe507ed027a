/- What can be come to in a memory, plainly: the order in which it is. -/
import Derived.Test.YtlifnjfmocjfjaaGreatDoorMemGA
namespace Go.Proofs.YtlifnjfmocjfjaaGreatDoor
open Go.RowKit

/-- A word that points to no object but one of these. -/
def Held (vs : List Nat) (x : Int) : Prop := 0 ≤ ptI x → 0 ≤ objI vs (ptI x)
theorem held_field {vs : List Nat} {x : Int} (h : fieldR vs x = true) : Held vs x := fun hp => by
  unfold fieldR at h
  unfold ptI at hp
  split at hp
  · rename_i hx
    rw [if_pos hx.1] at h
    have hz : (x == 0) = false := by rw [beq_eq_false_iff_ne]; omega
    rw [hz, Bool.false_or, Bool.and_eq_true] at h
    exact of_decide_eq_true h.2
  · omega
/-- A list of objects, each once. -/
structure Outs (vs out : List Nat) : Prop where
  sub : ∀ f ∈ out, f ∈ vs
  once : out.Nodup
theorem nodup_len : ∀ (out vs : List Nat), out.Nodup → (∀ f ∈ out, f ∈ vs) → out.length ≤ vs.length
  | [], _, _, _ => Nat.zero_le _
  | a :: out, vs, h, hs => by
    rw [List.nodup_cons] at h
    have h1 := nodup_len out (vs.erase a) h.2 (fun f hf => by
      have hne : f ≠ a := fun e => h.1 (by rw [← e]; exact hf)
      exact (List.mem_erase_of_ne hne).2 (hs f (by simp [hf])))
    have ha := hs a (by simp)
    rw [List.length_erase_of_mem ha] at h1
    have := List.length_pos_of_mem ha
    rw [List.length_cons]
    omega
theorem Outs.len {vs out : List Nat} (h : Outs vs out) : out.length ≤ vs.length := nodup_len _ _ h.once h.sub
theorem Outs.come {vs out : List Nat} (h : Outs vs out) {x : Int} (hx : Held vs x) : Outs vs (comeP out x) := by
  unfold comeP
  split
  · rename_i hc
    obtain ⟨f, hf⟩ : ∃ f : Nat, (f : Int) = ptI x := ⟨(ptI x).toNat, by omega⟩
    have hv := hx hc.1
    rw [← hf] at hv hc
    have e : (ptI x).toNat = f := by omega
    rw [e]
    have hn : f ∉ out := fun hm => by
      have := objI_mem.2 hm
      omega
    refine ⟨fun g hg => ?_, ?_⟩
    · rcases List.mem_append.1 hg with hg | hg
      · exact h.sub g hg
      · simp at hg; rw [hg]; exact objI_mem.1 hv
    · rw [List.nodup_append]
      refine ⟨h.once, by simp, fun a ha b hb => ?_⟩
      simp at hb
      rw [hb]
      exact fun e => hn (e ▸ ha)
  · exact h
def comesP (out : List Nat) (l : List Int) : List Nat := l.foldl comeP out
theorem comesP_take {out : List Nat} {l : List Int} {k : Nat} {x : Int} (h : l[k]? = some x) : comesP out (l.take (k + 1)) = comeP (comesP out (l.take k)) x := by
  unfold comesP
  rw [List.take_add_one, h, List.foldl_append]
  rfl
theorem Outs.comes {vs : List Nat} : ∀ {l : List Int} {out : List Nat}, Outs vs out → (∀ x ∈ l, Held vs x) → Outs vs (comesP out l)
  | [], _, h, _ => h
  | x :: l, _, h, hx => Outs.comes (l := l) (h.come (hx x (by simp))) (fun y hy => hx y (by simp [hy]))
theorem comeP_pre (out : List Nat) (x : Int) : ∃ l, comeP out x = out ++ l := by
  unfold comeP
  split
  · exact ⟨_, rfl⟩
  · exact ⟨[], by simp⟩
theorem comesP_pre : ∀ (l : List Int) (out : List Nat), ∃ r, comesP out l = out ++ r
  | [], out => ⟨[], by simp [comesP]⟩
  | x :: l, out => by
    obtain ⟨a, ha⟩ := comeP_pre out x
    obtain ⟨b, hb⟩ := comesP_pre l (comeP out x)
    exact ⟨a ++ b, by show comesP (comeP out x) l = _; rw [hb, ha, List.append_assoc]⟩
/-- What an object leads to. -/
def stepP (F : Nat → Int) (out : List Nat) (f : Nat) : List Nat := if F f / 4 % 256 < 8 then out else comesP out (fieldsP F f)
/-- All that can be come to, from the object with that number on. -/
def reachP (F : Nat → Int) : Nat → List Nat → Nat → List Nat
  | 0, out, _ => out
  | n + 1, out, k => match out[k]? with
    | none => out
    | some f => reachP F n (stepP F out f) (k + 1)
theorem reachP_end {F : Nat → Int} {out : List Nat} {k : Nat} (h : out.length ≤ k) : ∀ n, reachP F n out k = out
  | 0 => rfl
  | n + 1 => by unfold reachP; rw [List.getElem?_eq_none h]
theorem reachP_go {F : Nat → Int} {out : List Nat} {k f n : Nat} (h : out[k]? = some f) : reachP F (n + 1) out k = reachP F n (stepP F out f) (k + 1) := by
  conv => lhs; unfold reachP
  rw [h]
/-- A memory's objects and what they hold, as far as reaching goes. -/
structure Reachy (F : Nat → Int) (vs : List Nat) : Prop where
  held : ∀ f ∈ vs, ¬ F f / 4 % 256 < 8 → ∀ x ∈ fieldsP F f, Held vs x
theorem Outs.step {F : Nat → Int} {vs out : List Nat} (h : Outs vs out) (hR : Reachy F vs) {f : Nat} (hf : f ∈ vs) : Outs vs (stepP F out f) := by
  unfold stepP
  split
  · exact h
  · rename_i hc
    exact h.comes (hR.held f hf hc)
theorem stepP_pre (F : Nat → Int) (out : List Nat) (f : Nat) : ∃ r, stepP F out f = out ++ r := by
  unfold stepP
  split
  · exact ⟨[], by simp⟩
  · exact comesP_pre _ _
end Go.Proofs.YtlifnjfmocjfjaaGreatDoor
