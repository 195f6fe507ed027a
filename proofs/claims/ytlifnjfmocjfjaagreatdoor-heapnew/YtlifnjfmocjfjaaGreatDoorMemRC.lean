/- The document's memory: all its objects, by a contract. -/
import Derived.Test.YtlifnjfmocjfjaaGreatDoorMemRB
namespace Go.Proofs.YtlifnjfmocjfjaaGreatDoor
open Go.RowKit

theorem objsV_app (F : Nat → Int) (a b : List Nat) : objsV F (a ++ b) = objsV F a ++ objsV F b := by simp [objsV]
theorem objsV_one (F : Nat → Int) (vs : List Nat) : ∀ u ∈ objsV F vs, u.oneCell' = true := fun u hu => by
  obtain ⟨f, _, h⟩ := List.mem_flatMap.1 hu
  exact objV_one F f u h
theorem walkP_len {F : Nat → Int} {G : Nat → Bool} : ∀ {n f t : Nat} {l : List Nat}, walkP F G n f t = some l → l.length ≤ n
  | 0, f, t, l, h => by unfold walkP at h; cases h; simp
  | n + 1, f, t, l, h => by
    unfold walkP at h
    split at h
    · split at h
      · obtain ⟨l', h', rfl⟩ := Option.map_eq_some_iff.1 h
        have := walkP_len h'
        simp
        omega
      · cases h
    · cases h; simp
theorem wpList_append_rows {P : Program} {w : World} {ops : Array Oper} {rest : List Oper} {o : Oper} {a : Act} {Q : Exit → Act → World → Prop} (hgd : o.guard = none) (s x : Operand) (t : TypeId)
    (ho : o.op = .call { callee := .builtin .append, args := #[s, x], argTypes := #[t, t] })
    (base base2 : Nat) (e : TypeId) (i : TypeInfo) (z : Value) (size bytes : Nat) (ht : P.underlying t = some (.slice e)) (hi : P.info? e = some i) (hz : i.zero = some z)
    (hsize : i.size = size) (hby : i.bytes = bytes) (hzs : z.cells.size = size) (hsz : 0 < size)
    (v : Value) (n : Nat) (xs : List Value) (hs : a.eval s = v) (hown : w.ownsRow base e size v n xs)
    (v2 : Value) (m : Nat) (ys : List Value) (hx : a.eval x = v2) (hown2 : w.ownsRow base2 e size v2 m ys) (h1 : ∀ u ∈ ys, u.oneCell' = true)
    (h63 : n + m ≤ maxLen) (hbytes : (n + m) * bytes ≤ 140737488355328) (hbase : base ≤ w.heap.size)
    (h : ∀ ao cap w', w'.ownsRow base e size (.slice ao (n + m) cap) (n + m) (xs ++ ys) → Below base w w' → wpList P ops Q rest (a.put o.dst (.slice ao (n + m) cap)) w') : wpList P ops Q (o :: rest) a w := by
  rcases hown2.2 with ⟨rfl, rfl⟩ | ⟨g, cap, cur, rfl, hgb, hg, hc, _, hs2, ht2⟩
  · obtain rfl : ys = [] := List.eq_nil_of_length_eq_zero (by have := hown2.1; omega)
    refine wpList_append_own_none hgd s x t ho base e i size ht hi v n xs hs hown hx ?_
    obtain ⟨ao, cap, rfl⟩ := own_slice hown
    have := h ao cap w (by simpa using hown) (Below.refl _ _)
    simpa using this
  · have hr := (rowV_own hown2).src
    refine wpList_append_own w hgd s x t ho base e i z size bytes ht hi hz hsize hby hzs hsz v n xs hs hown ⟨g, 0, none⟩ m cap ys hx hown2.1 (fun j u hj => ?_) h1 h63 hbytes hbase (fun v' w' h2 h3 _ => ?_)
    · have hm : 0 < m := by
        rcases Nat.eq_zero_or_pos m with h | h
        · subst h; have := (List.getElem?_eq_some_iff.1 hj).1; have := hown2.1; omega
        · exact h
      obtain ⟨ad, e1, _, e3⟩ := hr hm
      cases e1
      exact e3 j u hj
    · obtain ⟨ao, cap', rfl⟩ := own_slice h2
      exact h ao cap' w' h2 ((Below.refl _ _).grown h3 hbase (fun k hk => (own_lt2 hown k hk).1))
end Go.Proofs.YtlifnjfmocjfjaaGreatDoor
