/- Two memories whose objects are the same, at other places: what can be come to, plainly. -/
import Derived.Test.YtnenggkgfhgcnaaGreatDoorJnK
import Derived.Test.YtnenggkgfhgcnaaGreatDoorJnC

namespace Go.Proofs.YtnenggkgfhgcnaaGreatDoor
open Go.RowKit

/-- A word that follows its object. -/
def mvI (φ : Nat → Nat) (x : Int) : Int := if 0 ≤ ptI x then ((φ (ptI x).toNat : Int) + 1) * 4 else x
/-- A word that points to no object but one of these. -/
def PtIn (S : Nat → Prop) (x : Int) : Prop := 0 ≤ ptI x → S (ptI x).toNat
/-- The objects S of F are at φ in G, and what they hold has followed. -/
structure Iso (F G : Nat → Int) (S : Nat → Prop) (φ : Nat → Nat) : Prop where
  inj : ∀ f g, S f → S g → φ f = φ g → f = g
  few : ∀ f, S f → φ f < 1099511627776
  kind : ∀ f, S f → G (φ f) / 4 % 256 = F f / 4 % 256
  size : ∀ f, S f → szN (G (φ f)) = szN (F f)
  fld : ∀ f, S f → ∀ k, k < szN (F f) → G (φ f + 1 + k) = if F f / 4 % 256 < 8 then F (f + 1 + k) else mvI φ (F (f + 1 + k))
  cl : ∀ f, S f → ¬ F f / 4 % 256 < 8 → ∀ k, k < szN (F f) → PtIn S (F (f + 1 + k))
theorem ptI_addr {f : Nat} (h : f < 1099511627776) : ptI (((f : Int) + 1) * 4) = (f : Int) := by unfold ptI; rw [if_pos (by omega)]; omega
theorem mv_pt {S : Nat → Prop} {φ : Nat → Nat} (hf : ∀ f, S f → φ f < 1099511627776) {x : Int} (hx : PtIn S x) (h : 0 ≤ ptI x) : ptI (mvI φ x) = (φ (ptI x).toNat : Int) := by
  unfold mvI
  rw [if_pos h, ptI_addr (hf _ (hx h))]
theorem mv_no {φ : Nat → Nat} {x : Int} (h : ¬ 0 ≤ ptI x) : mvI φ x = x := by unfold mvI; rw [if_neg h]
theorem objI_none {vs : List Nat} {x : Int} (h : x < 0) : objI vs x = -1 := by
  unfold objI
  rw [List.findIdx?_eq_none_iff.2]
  intro v _
  rw [beq_eq_false_iff_ne]
  omega
theorem objI_map {S : Nat → Prop} {φ : Nat → Nat} (hi : ∀ f g, S f → S g → φ f = φ g → f = g) {f : Nat} (hf : S f) : ∀ {out : List Nat}, (∀ g ∈ out, S g) → objI (out.map φ) (φ f : Int) = objI out (f : Int) := fun {out} h => by
  unfold objI
  rw [List.findIdx?_map]
  have e : out.findIdx? ((fun v : Nat => ((v : Int) == (φ f : Int))) ∘ φ) = out.findIdx? (fun v : Nat => ((v : Int) == (f : Int))) := by
    induction out with
    | nil => rfl
    | cons a l ih =>
      have ih := ih (fun g hg => h g (by simp [hg]))
      have ha : (((fun v : Nat => ((v : Int) == (φ f : Int))) ∘ φ) a) = ((a : Int) == (f : Int)) := by
        show ((φ a : Int) == (φ f : Int)) = ((a : Int) == (f : Int))
        rw [Bool.eq_iff_iff, beq_iff_eq, beq_iff_eq]
        constructor
        · intro e
          have := hi a f (h a (by simp)) hf (by omega)
          omega
        · intro e
          obtain rfl : a = f := by omega
          rfl
      rw [List.findIdx?_cons, List.findIdx?_cons, ha, ih]
  rw [e]
theorem tell_iso {S : Nat → Prop} {φ : Nat → Nat} (hi : ∀ f g, S f → S g → φ f = φ g → f = g) (hf : ∀ f, S f → φ f < 1099511627776) {out : List Nat} (ho : ∀ g ∈ out, S g) {x : Int} (hx : PtIn S x) : tellB (out.map φ) (mvI φ x) = tellB out x := by
  by_cases h : 0 ≤ ptI x
  · have hp := mv_pt hf hx h
    have hb := hx h
    have hx4 : x % 4 = 0 ∧ 4 ≤ x := by
      unfold ptI at h
      split at h
      · rename_i c; exact ⟨c.1, c.2.1⟩
      · omega
    obtain ⟨g, hg⟩ : ∃ g, g = (ptI x).toNat := ⟨_, rfl⟩
    have hgi : ptI x = (g : Int) := by omega
    have he : mvI φ x = ((φ g : Int) + 1) * 4 := by unfold mvI; rw [if_pos h, hg]
    rw [← hg] at hp hb
    have ho' : objI (out.map φ) (φ g : Int) = objI out (g : Int) := objI_map hi hb ho
    unfold tellB
    have e1 : ¬ ((φ g : Int) + 1) * 4 % 4 = 1 := by omega
    have e2 : ¬ ((φ g : Int) + 1) * 4 % 4 = 2 := by omega
    have e3 : ¬ ((φ g : Int) + 1) * 4 = 0 := by omega
    have d1 : ¬ x % 4 = 1 := by omega
    have d2 : ¬ x % 4 = 2 := by omega
    have d3 : ¬ x = 0 := by omega
    rw [hp, hgi, ho', he, if_neg e1, if_neg e2, if_neg e3, if_neg d1, if_neg d2, if_neg d3]
  · rw [mv_no h]
    unfold tellB
    rw [objI_none (vs := out.map φ) (by omega), objI_none (vs := out) (by omega)]
theorem come_iso {S : Nat → Prop} {φ : Nat → Nat} (hi : ∀ f g, S f → S g → φ f = φ g → f = g) (hf : ∀ f, S f → φ f < 1099511627776) {out : List Nat} (ho : ∀ g ∈ out, S g) {x : Int} (hx : PtIn S x) : comeP (out.map φ) (mvI φ x) = (comeP out x).map φ ∧ ∀ g ∈ comeP out x, S g := by
  by_cases h : 0 ≤ ptI x
  · have hp := mv_pt hf hx h
    have hb := hx h
    obtain ⟨g, hg⟩ : ∃ g, g = (ptI x).toNat := ⟨_, rfl⟩
    have hgi : ptI x = (g : Int) := by omega
    rw [← hg] at hp hb
    have ho' : objI (out.map φ) (φ g : Int) = objI out (g : Int) := objI_map hi hb ho
    unfold comeP
    rw [hp, hgi, ho']
    by_cases hc : objI out (g : Int) < 0
    · rw [if_pos ⟨by omega, hc⟩, if_pos ⟨by omega, hc⟩, List.map_append]
      refine ⟨by simp, fun k hk => ?_⟩
      rcases List.mem_append.1 hk with hk | hk
      · exact ho k hk
      · simp at hk; rw [hk]; exact hb
    · rw [if_neg (fun h => hc h.2), if_neg (fun h => hc h.2)]
      exact ⟨rfl, ho⟩
  · rw [mv_no h]
    unfold comeP
    rw [if_neg (fun c => h c.1), if_neg (fun c => h c.1)]
    exact ⟨rfl, ho⟩
theorem comes_iso {S : Nat → Prop} {φ : Nat → Nat} (hi : ∀ f g, S f → S g → φ f = φ g → f = g) (hf : ∀ f, S f → φ f < 1099511627776) : ∀ {l : List Int} {out : List Nat}, (∀ g ∈ out, S g) → (∀ x ∈ l, PtIn S x) → comesP (out.map φ) (l.map (mvI φ)) = (comesP out l).map φ ∧ ∀ g ∈ comesP out l, S g
  | [], out, ho, _ => ⟨rfl, ho⟩
  | x :: l, out, ho, hl => by
    obtain ⟨e, h⟩ := come_iso hi hf ho (hl x (by simp))
    have ih := comes_iso hi hf (l := l) h (fun y hy => hl y (by simp [hy]))
    show comesP (comeP (out.map φ) (mvI φ x)) (l.map (mvI φ)) = (comesP (comeP out x) l).map φ ∧ _
    rw [e]
    exact ih
variable {F G : Nat → Int} {S : Nat → Prop} {φ : Nat → Nat}
theorem Iso.fields (h : Iso F G S φ) {f : Nat} (hf : S f) : fieldsP G (φ f) = if F f / 4 % 256 < 8 then fieldsP F f else (fieldsP F f).map (mvI φ) := by
  have h1 := h.fld f hf
  unfold fieldsP
  rw [h.size f hf]
  by_cases hk : F f / 4 % 256 < 8
  · rw [if_pos hk]
    refine List.map_congr_left fun j hj => ?_
    rw [h1 j (List.mem_range.1 hj), if_pos hk]
  · rw [if_neg hk, List.map_map]
    refine List.map_congr_left fun j hj => ?_
    rw [h1 j (List.mem_range.1 hj), if_neg hk]
    rfl
theorem Iso.ptIn (h : Iso F G S φ) {f : Nat} (hf : S f) (hk : ¬ F f / 4 % 256 < 8) : ∀ x ∈ fieldsP F f, PtIn S x := fun x hx => by
  unfold fieldsP at hx
  obtain ⟨j, hj, rfl⟩ := List.mem_map.1 hx
  exact h.cl f hf hk j (List.mem_range.1 hj)
theorem Iso.step (h : Iso F G S φ) {out : List Nat} (ho : ∀ g ∈ out, S g) {f : Nat} (hf : S f) : stepP G (out.map φ) (φ f) = (stepP F out f).map φ ∧ ∀ g ∈ stepP F out f, S g := by
  unfold stepP
  rw [h.kind f hf, h.fields hf]
  by_cases hk : F f / 4 % 256 < 8
  · rw [if_pos hk, if_pos hk]; exact ⟨rfl, ho⟩
  · rw [if_neg hk, if_neg hk, if_neg hk]
    exact comes_iso h.inj h.few ho (h.ptIn hf hk)
theorem Iso.reach (h : Iso F G S φ) : ∀ (n : Nat) (out : List Nat) (k : Nat), (∀ g ∈ out, S g) → reachP G n (out.map φ) k = (reachP F n out k).map φ ∧ ∀ g ∈ reachP F n out k, S g
  | 0, out, _, ho => ⟨rfl, ho⟩
  | n + 1, out, k, ho => by
    unfold reachP
    rw [List.getElem?_map]
    cases e : out[k]? with
    | none => exact ⟨rfl, ho⟩
    | some f =>
      have hf := ho f (List.mem_of_getElem? e)
      obtain ⟨e1, h1⟩ := h.step ho hf
      show reachP G n (stepP G (out.map φ) (φ f)) (k + 1) = _ ∧ _
      rw [e1]
      exact h.reach n _ (k + 1) h1
theorem reachP_more {F : Nat → Int} {vs : List Nat} (hR : Reachy F vs) (j : Nat) : ∀ (n : Nat) (out : List Nat) (k : Nat), Outs vs out → vs.length + 1 ≤ n + k → reachP F (n + j) out k = reachP F n out k
  | 0, out, k, ho, hk => by
    have := ho.len
    rw [reachP_end (by omega), reachP_end (by omega)]
  | n + 1, out, k, ho, hk => by
    rw [Nat.succ_add]
    conv => lhs; unfold reachP
    conv => rhs; unfold reachP
    cases e : out[k]? with
    | none => rfl
    | some f => exact reachP_more hR j n _ (k + 1) (ho.step hR (ho.sub f (List.mem_of_getElem? e))) (by omega)
end Go.Proofs.YtnenggkgfhgcnaaGreatDoor

/- The nursery collected, plainly: copies that lie one behind the other. -/
namespace Go.Proofs.YtnenggkgfhgcnaaGreatDoor
open Go.RowKit

/-- Copies of these objects (whence, where) fill the words from a on, up to b. -/
def Tiled (F : Nat → Int) : Nat → List (Nat × Nat) → Nat → Prop
  | a, [], b => a = b
  | a, p :: L, b => p.2 = a ∧ Tiled F (a + 1 + szN (F p.1)) L b
variable {F : Nat → Int}
theorem Tiled.append : ∀ {L L' : List (Nat × Nat)} {a b c : Nat}, Tiled F a L b → Tiled F b L' c → Tiled F a (L ++ L') c
  | [], _, _, _, _, h, h' => by obtain rfl : _ = _ := h; exact h'
  | _ :: _, _, _, _, _, h, h' => ⟨h.1, Tiled.append h.2 h'⟩
theorem Tiled.snoc {L : List (Nat × Nat)} {a b : Nat} (h : Tiled F a L b) (f : Nat) : Tiled F a (L ++ [(f, b)]) (b + 1 + szN (F f)) := h.append ⟨rfl, rfl⟩
theorem Tiled.split : ∀ {L L' : List (Nat × Nat)} {a c : Nat}, Tiled F a (L ++ L') c → ∃ b, Tiled F a L b ∧ Tiled F b L' c
  | [], _, a, _, h => ⟨a, rfl, h⟩
  | _ :: _, _, _, _, h => by obtain ⟨b, h1, h2⟩ := Tiled.split h.2; exact ⟨b, ⟨h.1, h1⟩, h2⟩
theorem Tiled.uniq : ∀ {L : List (Nat × Nat)} {a b c : Nat}, Tiled F a L b → Tiled F a L c → b = c
  | [], _, _, _, h, h' => by obtain rfl : _ = _ := h; exact h'
  | _ :: _, _, _, _, h, h' => Tiled.uniq h.2 h'.2
/-- How many words they are. -/
def wordsP (F : Nat → Int) (l : List Nat) : Nat := (l.map fun f => 1 + szN (F f)).sum
theorem Tiled.sum : ∀ {L : List (Nat × Nat)} {a b : Nat}, Tiled F a L b → b = a + wordsP F (L.map Prod.fst)
  | [], _, _, h => by obtain rfl : _ = _ := h; rfl
  | p :: L, a, b, h => by
    have := Tiled.sum h.2
    unfold wordsP at this ⊢
    rw [List.map_cons, List.map_cons, List.sum_cons]
    omega
theorem Tiled.mem : ∀ {L : List (Nat × Nat)} {a b : Nat}, Tiled F a L b → ∀ p ∈ L, a ≤ p.2 ∧ p.2 + 1 + szN (F p.1) ≤ b
  | [], _, _, _, p, hp => by simp at hp
  | q :: L, a, b, h, p, hp => by
    have hs := Tiled.sum h.2
    rcases List.mem_cons.1 hp with rfl | hp1
    · have := h.1; omega
    · have := Tiled.mem h.2 p hp1; omega
theorem Tiled.le {L : List (Nat × Nat)} {a b : Nat} (h : Tiled F a L b) : a ≤ b := by have := h.sum; omega
theorem Tiled.apart : ∀ {L : List (Nat × Nat)} {a b : Nat}, Tiled F a L b → ∀ p ∈ L, ∀ q ∈ L, p = q ∨ p.2 + 1 + szN (F p.1) ≤ q.2 ∨ q.2 + 1 + szN (F q.1) ≤ p.2
  | [], _, _, _, p, hp, _, _ => by simp at hp
  | r :: L, a, b, h, p, hp, q, hq => by
    have h1 := h.1
    rcases List.mem_cons.1 hp with rfl | hp1
    · rcases List.mem_cons.1 hq with rfl | hq1
      · exact Or.inl rfl
      · have := Tiled.mem h.2 q hq1; omega
    · rcases List.mem_cons.1 hq with rfl | hq1
      · have := Tiled.mem h.2 p hp1; omega
      · exact Tiled.apart h.2 p hp1 q hq1
theorem tiled_of_walk {G : Nat → Bool} : ∀ {n a b : Nat} {l : List Nat}, walkP F G n a b = some l → a ≤ b → b - a ≤ n → Tiled F a (l.map fun f => (f, f)) b
  | 0, a, b, l, h, h1, h2 => by
    unfold walkP at h
    cases h
    show a = b
    omega
  | n + 1, a, b, l, h, h1, h2 => by
    unfold walkP at h
    by_cases hc : a < b
    · rw [if_pos hc] at h
      split at h
      · rename_i hb
        obtain ⟨l', h', rfl⟩ := Option.map_eq_some_iff.1 h
        have hb := (Bool.and_eq_true _ _ ▸ hb).2
        have hb := of_decide_eq_true (Bool.and_eq_true _ _ ▸ hb).1
        exact ⟨rfl, tiled_of_walk h' hb (by omega)⟩
      · cases h
    · rw [if_neg hc] at h
      cases h
      show a = b
      omega
theorem walk_of_tiled {F' : Nat → Int} {G : Nat → Bool} : ∀ {L : List (Nat × Nat)} {n a b : Nat}, Tiled F a L b → (∀ p ∈ L, headB (F' p.2) = true ∧ szN (F' p.2) = szN (F p.1) ∧ G p.2 = true) → b - a ≤ n → walkP F' G n a b = some (L.map Prod.snd)
  | [], n, a, b, h, _, _ => by obtain rfl : a = b := h; exact walkP_done (Nat.lt_irrefl _)
  | p :: L, n, a, b, h, hp, hn => by
    have hs := Tiled.sum h.2
    obtain ⟨e1, e2, e3⟩ := hp p (by simp)
    have e0 := h.1
    rw [e0] at e1 e2 e3
    obtain ⟨n', hn', e⟩ := walkP_next (F := F') (G := G) (n := n) (f := a) (t := b) hn (by omega) (by rw [e1, e3, e2, decide_eq_true (by omega)]; rfl)
    rw [e, e2, walk_of_tiled h.2 (fun q hq => hp q (by simp [hq])) (by rw [e2] at hn'; exact hn')]
    rw [List.map_cons, ← e0]
    rfl
theorem wordsP_sub (F : Nat → Int) : ∀ (l L : List Nat), l.Nodup → (∀ x ∈ l, x ∈ L) → wordsP F l ≤ wordsP F L
  | [], _, _, _ => Nat.zero_le _
  | x :: l, L, hn, h => by
    have hx := h x (by simp)
    have hn := List.nodup_cons.1 hn
    have hp := List.perm_cons_erase hx
    have ih := wordsP_sub F l (L.erase x) hn.2 (fun y hy => (List.mem_erase_of_ne (a := y) (b := x) (fun e => hn.1 (by rw [← e]; exact hy))).2 (h y (by simp [hy])))
    have e : wordsP F L = wordsP F (x :: L.erase x) := (hp.map _).sum_nat
    unfold wordsP at ih e ⊢
    rw [e, List.map_cons, List.map_cons, List.sum_cons, List.sum_cons]
    omega
/-- What a header's word tells, with another age. -/
theorem hdW_facts {x g : Int} (hx : headB x = true) (h0 : 0 ≤ x) (g0 : 0 ≤ g) (g1 : g ≤ 15) : hdW x g / 65536 = x / 65536 ∧ hdW x g / 4 % 256 = x / 4 % 256 ∧ hdW x g / 1024 % 16 = g ∧ hdW x g / 16384 % 2 = x / 16384 % 2 ∧ headB (hdW x g) = true ∧ 0 ≤ hdW x g ∧ hdW x g < 18446744073709551616 := by
  obtain ⟨e1, e2, e3⟩ := of_decide_eq_true hx
  unfold hdW headB
  rw [decide_eq_true_iff]
  refine ⟨?_, ?_, ?_, ?_, ⟨?_, ?_, ?_⟩, ?_, ?_⟩ <;> omega
theorem getD_splice (W cs : List Int) (a i : Nat) (h : a + cs.length ≤ W.length) : (splice W a cs).getD i 0 = if a ≤ i ∧ i < a + cs.length then cs.getD (i - a) 0 else W.getD i 0 := by
  unfold splice
  simp only [List.getD_eq_getElem?_getD]
  by_cases h1 : i < a
  · rw [if_neg (by omega), List.getElem?_append_left (by rw [List.length_take]; omega), List.getElem?_take, if_pos h1]
  · rw [List.getElem?_append_right (by rw [List.length_take]; omega), List.length_take, Nat.min_eq_left (by omega)]
    by_cases h2 : i < a + cs.length
    · rw [if_pos ⟨by omega, h2⟩, List.getElem?_append_left (by omega)]
    · rw [if_neg (by omega), List.getElem?_append_right (by omega), List.getElem?_drop]
      congr 2
      omega
theorem getD_set (W : List Int) (a i : Nat) (x : Int) (h : a < W.length) : (W.set a x).getD i 0 = if i = a then x else W.getD i 0 := by
  simp only [List.getD_eq_getElem?_getD]
  by_cases e : i = a
  · rw [if_pos e, e, List.getElem?_set_self h]; rfl
  · rw [if_neg e, List.getElem?_set_ne (fun h => e h.symm)]
theorem layW_at (W : List Int) (f a i : Nat) (x g : Int) (ha : a + (1 + szN x) ≤ W.length) (hf : f + (1 + szN x) ≤ W.length) : (layW W f a x g).getD i 0 = if i = a then hdW x g else if a ≤ i ∧ i < a + 1 + szN x then W.getD (f + (i - a)) 0 else W.getD i 0 := by
  have hl : ((W.drop f).take (1 + szN x)).length = 1 + szN x := by rw [List.length_take, List.length_drop]; omega
  have hs : (splice W a ((W.drop f).take (1 + szN x))).length = W.length := by
    unfold splice
    rw [List.length_append, List.length_append, List.length_take, List.length_drop, hl]; omega
  unfold layW
  rw [getD_set _ _ _ _ (by rw [hs]; omega)]
  by_cases e : i = a
  · rw [if_pos e, if_pos e]
  · rw [if_neg e, if_neg e, getD_splice _ _ _ _ (by rw [hl]; exact ha), hl]
    by_cases h2 : a ≤ i ∧ i < a + 1 + szN x
    · rw [if_pos ⟨h2.1, by omega⟩, if_pos h2]
      simp only [List.getD_eq_getElem?_getD]
      rw [List.getElem?_take, if_pos (by omega), List.getElem?_drop]
    · rw [if_neg (by omega), if_neg h2]
theorem layW_len (W : List Int) (f a : Nat) (x g : Int) (ha : a + (1 + szN x) ≤ W.length) (hf : f + (1 + szN x) ≤ W.length) : (layW W f a x g).length = W.length := by
  have hl : ((W.drop f).take (1 + szN x)).length = 1 + szN x := by rw [List.length_take, List.length_drop]; omega
  unfold layW splice
  rw [List.length_set, List.length_append, List.length_append, List.length_take, List.length_drop, hl]; omega
theorem layW_u64 {W : List Int} (h : U64 W) (f a : Nat) (x g : Int) (hx : 0 ≤ hdW x g ∧ hdW x g < 18446744073709551616) : U64 (layW W f a x g) := fun y hy => by
  unfold layW at hy
  rcases List.mem_or_eq_of_mem_set hy with hy | rfl
  · unfold splice at hy
    rcases List.mem_append.1 hy with hy | hy
    · exact h y (List.mem_of_mem_take hy)
    · rcases List.mem_append.1 hy with hy | hy
      · exact h y (List.mem_of_mem_drop (List.mem_of_mem_take hy))
      · exact h y (List.mem_of_mem_drop hy)
  · exact hx
end Go.Proofs.YtnenggkgfhgcnaaGreatDoor

/- The nursery collected, plainly: what holds while objects are copied. -/
namespace Go.Proofs.YtnenggkgfhgcnaaGreatDoor
open Go.RowKit

/-- A right memory that is being collected: its objects, young ones and old ones. -/
structure CX (e : CE) (m : MD) (l1 l2 : List Nat) (o0 : Nat) : Prop where
  S : m.Shape (l1 ++ l2)
  h64 : MD64 m
  cards : m.cardsB = true
  w1 : walkP m.F (G0 m.F) (m.n1 - m.n0) m.n0 m.n1 = some l1
  w2 : walkP m.F (G0 m.F) (m.m1 - m.m0) m.m0 m.m1 = some l2
  lo : e.lo = m.n0
  hi : (e.hi : Int) = (m.n0 : Int) + m.half
  o0 : (o0 : Int) = (1 - m.used) * m.half
  half : e.half = m.half
  card : e.card = m.card
  room : m.top ≤ m.old - m.oldTop
  tn0 : 0 ≤ e.tn
  tn1 : e.tn ≤ 15
  nW : e.nW = m.W.length
  nC : e.nC = m.C.length
  cap : e.nW ≤ e.cW
/-- Its numbers, as naturals. -/
structure CN (e : CE) (m : MD) (o0 h : Nat) : Prop where
  half : m.half = (h : Int)
  h1 : 1 ≤ h
  lo : e.lo = m.n0
  hi : e.hi = m.n0 + h
  le : m.n0 ≤ m.n1
  n1 : m.n1 ≤ m.n0 + h
  sep : (m.n0 = 0 ∧ o0 = h) ∨ (m.n0 = h ∧ o0 = 0)
  m0 : m.m0 = 2 * h
  m1 : m.m0 ≤ m.m1
  nW : e.nW = m.W.length
  room : m.m1 + (m.n1 - m.n0) ≤ e.nW
  few : e.nW ≤ 300000
variable {e : CE} {m : MD} {l1 l2 : List Nat} {o0 : Nat}
theorem CX.num (X : CX e m l1 l2 o0) : ∃ h, CN e m o0 h := by
  have hF := X.S.1
  have P := MD.parts hF
  have hn := hF.nums
  unfold numsOK at hn
  have hw := hF.w
  have u0 := hF.u0
  have u1 := hF.u1
  have t0 := hF.t0
  have t1 := hF.t1
  have p0 := P.n0
  have p1 := P.n1
  have p2 := P.m0
  have p3 := P.m1
  have r := X.room
  have ho := X.o0
  have hnW := X.nW
  have hhi := X.hi
  have ot0 := hF.o0
  obtain ⟨h, hh⟩ : ∃ h : Nat, m.half = (h : Int) := ⟨m.half.toNat, by omega⟩
  have hu : m.used = 0 ∨ m.used = 1 := by omega
  rcases hu with hu | hu
  · rw [hu] at p0 p1 ho
    simp only [Int.zero_mul, Int.sub_zero, Int.one_mul] at p0 p1 ho
    exact ⟨h, hh, by omega, X.lo, by omega, by omega, by omega, Or.inl ⟨by omega, by omega⟩, by omega, by omega, hnW, by omega, by omega⟩
  · rw [hu] at p0 p1 ho
    simp only [Int.one_mul, Int.sub_self, Int.zero_mul] at p0 p1 ho
    exact ⟨h, hh, by omega, X.lo, by omega, by omega, by omega, Or.inr ⟨by omega, by omega⟩, by omega, by omega, hnW, by omega, by omega⟩
theorem CX.t1 (X : CX e m l1 l2 o0) : Tiled m.F m.n0 (l1.map fun f => (f, f)) m.n1 := by
  obtain ⟨h, N⟩ := X.num
  exact tiled_of_walk X.w1 N.le (Nat.le_refl _)
theorem CX.t2 (X : CX e m l1 l2 o0) : Tiled m.F m.m0 (l2.map fun f => (f, f)) m.m1 := by
  obtain ⟨h, N⟩ := X.num
  exact tiled_of_walk X.w2 N.m1 (Nat.le_refl _)
theorem CX.in1 (X : CX e m l1 l2 o0) {f : Nat} (hf : f ∈ l1) : m.n0 ≤ f ∧ f + 1 + szN (m.F f) ≤ m.n1 := X.t1.mem (f, f) (List.mem_map.2 ⟨f, hf, rfl⟩)
theorem CX.in2 (X : CX e m l1 l2 o0) {f : Nat} (hf : f ∈ l2) : m.m0 ≤ f ∧ f + 1 + szN (m.F f) ≤ m.m1 := X.t2.mem (f, f) (List.mem_map.2 ⟨f, hf, rfl⟩)
theorem CX.head (X : CX e m l1 l2 o0) {f : Nat} (hf : f ∈ l1 ++ l2) : headB (m.F f) = true := (X.S.fine f hf).1
theorem CX.range (X : CX e m l1 l2 o0) (i : Nat) : 0 ≤ m.F i ∧ m.F i < 18446744073709551616 := by
  unfold MD.F
  rw [List.getD_eq_getElem?_getD]
  cases h : m.W[i]? with
  | none => exact ⟨by decide, by decide⟩
  | some x => exact X.h64.w x (List.mem_of_getElem? h)
/-- An object that is there, and where. -/
def Placed (l2 : List Nat) (Y G : List (Nat × Nat)) (p : Nat × Nat) : Prop := p ∈ Y ++ G ∨ (p.1 ∈ l2 ∧ p.2 = p.1)
/-- A field that has followed. -/
structure Dn (e : CE) (m : MD) (l2 : List Nat) (Y G : List (Nat × Nat)) (s : CS) (y : Nat) (p : Nat × Nat) (k : Nat) : Prop where
  at' : y = p.2 + 1 + k
  pl : Placed l2 Y G p
  lt : k < szN (m.F p.1)
  kd : ¬ m.F p.1 / 4 % 256 < 8
  ok : (nowP e.lo e.hi s.φ (m.F (p.1 + 1 + k))).2 = true
  is : s.W.getD y 0 = (nowP e.lo e.hi s.φ (m.F (p.1 + 1 + k))).1
  card : m.m0 ≤ y → youngB m.half (s.W.getD y 0) = true → s.C.getD (cardN m.half m.card y) false = true
/-- What holds while objects are copied: Y to the young ones, G to the grown ones; the fields D have followed. -/
structure CI (e : CE) (m : MD) (l1 l2 : List Nat) (o0 : Nat) (Y G : List (Nat × Nat)) (D : Nat → Prop) (s : CS) : Prop where
  tY : Tiled m.F o0 Y s.yt
  tG : Tiled m.F m.m1 G s.gt
  nd : ((Y ++ G).map Prod.fst).Nodup
  sub : ∀ p ∈ Y ++ G, p.1 ∈ l1
  ay : ∀ p ∈ Y, m.F p.1 / 1024 % 16 < e.tn
  ag : ∀ p ∈ G, e.tn ≤ m.F p.1 / 1024 % 16
  φ : ∀ f t, s.φ f = some t ↔ (f, t) ∈ Y ++ G
  len : s.W.length = e.nW
  clen : s.C.length = e.nC
  u64 : U64 s.W
  hy : ∀ p ∈ Y, s.W.getD p.2 0 = hdW (m.F p.1) (m.F p.1 / 1024 % 16 + 1)
  hg : ∀ p ∈ G, s.W.getD p.2 0 = hdW (m.F p.1) 0
  raw : ∀ p ∈ Y ++ G, ∀ k, k < szN (m.F p.1) → ¬ D (p.2 + 1 + k) → s.W.getD (p.2 + 1 + k) 0 = m.F (p.1 + 1 + k)
  src : ∀ i, m.n0 ≤ i → i < m.n1 → s.W.getD i 0 = m.F i
  old : ∀ i, m.m0 ≤ i → i < m.m1 → ¬ D i → s.W.getD i 0 = m.F i
  dn : ∀ y, D y → ∃ p k, Dn e m l2 Y G s y p k
variable {Y G : List (Nat × Nat)} {D : Nat → Prop} {s : CS}
/-- How many words were taken so far. -/
theorem CI.taken (I : CI e m l1 l2 o0 Y G D s) (X : CX e m l1 l2 o0) {l : List Nat} (hn : (l ++ (Y ++ G).map Prod.fst).Nodup) (hl : ∀ f ∈ l, f ∈ l1) : s.yt - o0 + (s.gt - m.m1) + wordsP m.F l ≤ m.n1 - m.n0 := by
  have h1 := I.tY.sum
  have h2 := I.tG.sum
  have h3 := X.t1.sum
  have h4 := wordsP_sub m.F _ l1 hn (fun x hx => by
    rcases List.mem_append.1 hx with hx | hx
    · exact hl x hx
    · obtain ⟨p, hp, rfl⟩ := List.mem_map.1 hx; exact I.sub p hp)
  have e1 : wordsP m.F (l ++ (Y ++ G).map Prod.fst) = wordsP m.F l + (wordsP m.F (Y.map Prod.fst) + wordsP m.F (G.map Prod.fst)) := by
    unfold wordsP
    rw [List.map_append, List.sum_append_nat, List.map_append, List.map_append, List.sum_append_nat]
  have e2 : (l1.map fun f => (f, f)).map Prod.fst = l1 := by rw [List.map_map]; exact List.map_id' _
  rw [e2] at h3
  omega
/-- Where copies lie. -/
theorem CI.place (I : CI e m l1 l2 o0 Y G D s) (X : CX e m l1 l2 o0) {h : Nat} (N : CN e m o0 h) : o0 ≤ s.yt ∧ s.yt ≤ o0 + h ∧ m.m1 ≤ s.gt ∧ s.gt ≤ e.nW := by
  have h1 := I.tY.le
  have h2 := I.tG.le
  have h3 := I.taken X (l := []) I.nd (by simp)
  have e0 : wordsP m.F [] = 0 := rfl
  have := N.n1
  have := N.room
  have := N.le
  refine ⟨h1, by omega, h2, by omega⟩
theorem Placed.out (I : CI e m l1 l2 o0 Y G D s) (X : CX e m l1 l2 o0) {p : Nat × Nat} (hp : Placed l2 Y G p) : (p ∈ Y ∧ o0 ≤ p.2 ∧ p.2 + 1 + szN (m.F p.1) ≤ s.yt) ∨ (p ∈ G ∧ m.m1 ≤ p.2 ∧ p.2 + 1 + szN (m.F p.1) ≤ s.gt) ∨ (p.1 ∈ l2 ∧ p.2 = p.1 ∧ m.m0 ≤ p.2 ∧ p.2 + 1 + szN (m.F p.1) ≤ m.m1) := by
  rcases hp with hp | ⟨h1, h2⟩
  · rcases List.mem_append.1 hp with hp | hp
    · exact Or.inl ⟨hp, I.tY.mem p hp⟩
    · exact Or.inr (Or.inl ⟨hp, I.tG.mem p hp⟩)
  · have := X.in2 h1
    rw [← h2] at this
    exact Or.inr (Or.inr ⟨h1, h2, by rw [h2] at this ⊢; rw [h2] at *; exact this⟩)
/-- What is there lies apart. -/
theorem CI.apart (I : CI e m l1 l2 o0 Y G D s) (X : CX e m l1 l2 o0) {p q : Nat × Nat} (hp : Placed l2 Y G p) (hq : Placed l2 Y G q) : p = q ∨ p.2 + 1 + szN (m.F p.1) ≤ q.2 ∨ q.2 + 1 + szN (m.F q.1) ≤ p.2 := by
  obtain ⟨h, N⟩ := X.num
  obtain ⟨b1, b2, b3, b4⟩ := I.place X N
  have s1 := N.sep
  have s2 := N.m0
  have s3 := N.m1
  rcases hp.out I X with ⟨hp, p1, p2⟩ | ⟨hp, p1, p2⟩ | ⟨hp, p0, p1, p2⟩
  · rcases hq.out I X with ⟨hq, q1, q2⟩ | ⟨hq, q1, q2⟩ | ⟨hq, q0, q1, q2⟩
    · exact I.tY.apart p hp q hq
    · omega
    · omega
  · rcases hq.out I X with ⟨hq, q1, q2⟩ | ⟨hq, q1, q2⟩ | ⟨hq, q0, q1, q2⟩
    · omega
    · exact I.tG.apart p hp q hq
    · omega
  · rcases hq.out I X with ⟨hq, q1, q2⟩ | ⟨hq, q1, q2⟩ | ⟨hq, q0, q1, q2⟩
    · omega
    · omega
    · have h1 := X.t2.apart (p.1, p.1) (List.mem_map.2 ⟨_, hp, rfl⟩) (q.1, q.1) (List.mem_map.2 ⟨_, hq, rfl⟩)
      rcases h1 with h1 | h1
      · have h1 : p.1 = q.1 := (Prod.mk.inj h1).1
        exact Or.inl (Prod.ext h1 (by rw [p0, q0, h1]))
      · have h1 : p.1 + 1 + szN (m.F p.1) ≤ q.1 ∨ q.1 + 1 + szN (m.F q.1) ≤ p.1 := h1
        omega
theorem CSOK.of (I : CI e m l1 l2 o0 Y G D s) (X : CX e m l1 l2 o0) : CSOK e s := by
  obtain ⟨h, N⟩ := X.num
  obtain ⟨b1, b2, b3, b4⟩ := I.place X N
  have s1 := N.sep
  have s2 := N.m0
  have s3 := N.m1
  have s4 := N.room
  have s5 := N.few
  have s6 := N.hi
  refine ⟨I.len, N.few, X.cap, by omega, I.u64, by omega, by omega, X.tn1, fun f t ht => ?_⟩
  have := (Placed.out I X (Or.inl ((I.φ f t).1 ht)))
  simp only at this
  rcases this with ⟨_, _, h⟩ | ⟨_, _, h⟩ | ⟨_, _, _, h⟩ <;> omega
theorem nowP_mono {lo hi : Nat} {φ φ' : Nat → Option Nat} (h : ∀ f t, φ f = some t → φ' f = some t) {x : Int} (hx : (nowP lo hi φ x).2 = true) : nowP lo hi φ' x = nowP lo hi φ x := by
  unfold nowP at hx ⊢
  split
  · rename_i hc
    rw [if_pos hc] at hx
    cases hf : φ (ptI x).toNat with
    | none => rw [hf] at hx; cases hx
    | some t => rw [h _ _ hf]
  · rfl
end Go.Proofs.YtnenggkgfhgcnaaGreatDoor

/- The nursery collected, plainly: an object is copied. -/
namespace Go.Proofs.YtnenggkgfhgcnaaGreatDoor
open Go.RowKit

variable {e : CE} {m : MD} {l1 l2 : List Nat} {o0 : Nat} {Y G : List (Nat × Nat)} {D : Nat → Prop} {s : CS}
theorem CI.fresh (I : CI e m l1 l2 o0 Y G D s) {f : Nat} (hn : s.φ f = none) : f ∉ (Y ++ G).map Prod.fst := fun h => by
  obtain ⟨p, hp, rfl⟩ := List.mem_map.1 h
  have := (I.φ p.1 p.2).2 hp
  rw [hn] at this
  cases this
/-- An object of the nursery that was not copied yet can be. -/
theorem CI.can (I : CI e m l1 l2 o0 Y G D s) (X : CX e m l1 l2 o0) {f : Nat} (hf : f ∈ l1) (hn : s.φ f = none) : s.W.getD f 0 = m.F f ∧ CanCopy e s f := by
  obtain ⟨h, N⟩ := X.num
  have hin := X.in1 hf
  have he : s.W.getD f 0 = m.F f := I.src f hin.1 (by omega)
  have hr := N.room
  have h0 := N.le
  have ht := I.taken X (l := [f]) (List.nodup_cons.2 ⟨I.fresh hn, I.nd⟩) (by simpa using hf)
  have ew : wordsP m.F [f] = 1 + szN (m.F f) := by simp [wordsP]
  have h1 := N.n1
  have h2 := N.sep
  have h3 := I.tY.le
  have h4 := I.tG.le
  have h5 := N.m0
  have h6 := N.m1
  refine ⟨he, by rw [he]; exact X.head (by simp [hf]), by rw [he]; omega, fun _ => by rw [he]; omega, fun _ => by rw [he]; omega⟩
theorem CI.grow (I : CI e m l1 l2 o0 Y G D s) (X : CX e m l1 l2 o0) {Y' G' : List (Nat × Nat)} {s' : CS} {f a : Nat} (hf : f ∈ l1) (hn : s.φ f = none)
    (g : Int) (g0 : 0 ≤ g) (g1 : g ≤ 15) (hW : s'.W = layW s.W f a (m.F f) g) (hC : s'.C = s.C) (hφ : s'.φ = upd s.φ f a) (ha : a + (1 + szN (m.F f)) ≤ e.nW)
    (hout : ∀ p, Placed l2 Y G p → p.2 + 1 + szN (m.F p.1) ≤ a ∨ a + 1 + szN (m.F f) ≤ p.2) (hsrc : ∀ i, m.n0 ≤ i → i < m.n1 → i < a ∨ a + 1 + szN (m.F f) ≤ i) (hold : ∀ i, m.m0 ≤ i → i < m.m1 → i < a ∨ a + 1 + szN (m.F f) ≤ i)
    (hm : ∀ p, p ∈ Y' ++ G' ↔ p = (f, a) ∨ p ∈ Y ++ G) (hY : ∀ p ∈ Y', p = (f, a) ∧ m.F f / 1024 % 16 < e.tn ∧ g = m.F f / 1024 % 16 + 1 ∨ p ∈ Y) (hG : ∀ p ∈ G', p = (f, a) ∧ e.tn ≤ m.F f / 1024 % 16 ∧ g = 0 ∨ p ∈ G)
    (hnd : ((Y' ++ G').map Prod.fst).Nodup) (tY : Tiled m.F o0 Y' s'.yt) (tG : Tiled m.F m.m1 G' s'.gt) : CI e m l1 l2 o0 Y' G' D s' := by
  have hin := X.in1 hf
  obtain ⟨h, N⟩ := X.num
  have hr := N.room
  have h0 := N.le
  have hm1 := N.m1
  have hm0 := N.m0
  have hs0 := N.sep
  have hn1 := N.n1
  have hfl : f + (1 + szN (m.F f)) ≤ s.W.length := by rw [I.len]; omega
  have hal : a + (1 + szN (m.F f)) ≤ s.W.length := by rw [I.len]; exact ha
  have hx := X.range f
  have hd := hdW_facts (X.head (f := f) (by simp [hf])) hx.1 g0 g1
  have hat : ∀ i, s'.W.getD i 0 = if i = a then hdW (m.F f) g else if a ≤ i ∧ i < a + 1 + szN (m.F f) then s.W.getD (f + (i - a)) 0 else s.W.getD i 0 := fun i => by rw [hW]; exact layW_at _ _ _ _ _ _ hal hfl
  have hother : ∀ i, i < a ∨ a + 1 + szN (m.F f) ≤ i → s'.W.getD i 0 = s.W.getD i 0 := fun i hi => by rw [hat, if_neg (by omega), if_neg (by omega)]
  have hfld : ∀ p, Placed l2 Y G p → ∀ k, k < szN (m.F p.1) → s'.W.getD (p.2 + 1 + k) 0 = s.W.getD (p.2 + 1 + k) 0 := fun p hp k hk => hother _ (by have := hout p hp; omega)
  have hmono : ∀ f' t, s.φ f' = some t → s'.φ f' = some t := fun f' t ht => by
    rw [hφ]; unfold upd
    by_cases e1 : f' = f
    · rw [e1, hn] at ht; cases ht
    · rw [if_neg e1]; exact ht
  refine ⟨tY, tG, hnd, fun p hp => ?_, fun p hp => ?_, fun p hp => ?_, fun f' t => ?_, ?_, by rw [hC]; exact I.clen, ?_, fun p hp => ?_, fun p hp => ?_, fun p hp k hk hD => ?_, fun i h1 h2 => ?_, fun i h1 h2 h3 => ?_, fun y hy => ?_⟩
  · rcases (hm p).1 hp with rfl | hp
    · exact hf
    · exact I.sub p hp
  · rcases hY p hp with ⟨rfl, h, _⟩ | hp
    · exact h
    · exact I.ay p hp
  · rcases hG p hp with ⟨rfl, h, _⟩ | hp
    · exact h
    · exact I.ag p hp
  · rw [hm, hφ]
    unfold upd
    by_cases e1 : f' = f
    · rw [if_pos e1, e1]
      constructor
      · intro h; cases h; exact Or.inl rfl
      · rintro (h | h)
        · cases h; rfl
        · have := (I.φ f t).2 h; rw [hn] at this; cases this
    · rw [if_neg e1, I.φ]
      constructor
      · intro h; exact Or.inr h
      · rintro (h | h)
        · cases h; exact absurd rfl e1
        · exact h
  · rw [hW, layW_len _ _ _ _ _ hal hfl]; exact I.len
  · rw [hW]; exact layW_u64 I.u64 _ _ _ _ ⟨hd.2.2.2.2.2.1, hd.2.2.2.2.2.2⟩
  · rcases hY p hp with ⟨rfl, _, h⟩ | hp
    · rw [hat, if_pos rfl, h]
    · rw [hother _ (by have := hout p (Or.inl (by simp [hp])); omega)]
      exact I.hy p hp
  · rcases hG p hp with ⟨rfl, _, h⟩ | hp
    · rw [hat, if_pos rfl, h]
    · rw [hother _ (by have := hout p (Or.inl (by simp [hp])); omega)]
      exact I.hg p hp
  · rcases (hm p).1 hp with rfl | hp
    · have hk : k < szN (m.F f) := hk
      show s'.W.getD (a + 1 + k) 0 = m.F (f + 1 + k)
      rw [hat, if_neg (by omega), if_pos (by omega), show f + (a + 1 + k - a) = f + 1 + k by omega]
      exact I.src _ (by omega) (by omega)
    · rw [hfld p (Or.inl hp) k hk]
      exact I.raw p hp k hk hD
  · rw [hother _ (hsrc i h1 h2)]; exact I.src i h1 h2
  · rw [hother _ (hold i h1 h2)]; exact I.old i h1 h2 h3
  · obtain ⟨p, k, d⟩ := I.dn y hy
    have hw : s'.W.getD y 0 = s.W.getD y 0 := by rw [d.at']; exact hfld p d.pl k d.lt
    have hno := nowP_mono (lo := e.lo) (hi := e.hi) hmono d.ok
    refine ⟨p, k, d.at', ?_, d.lt, d.kd, by rw [hno]; exact d.ok, by rw [hw, hno]; exact d.is, fun h1 h2 => by rw [hC]; rw [hw] at h2; exact d.card h1 h2⟩
    rcases d.pl with h | h
    · exact Or.inl ((hm p).2 (Or.inr h))
    · exact Or.inr h
/-- An object is copied. -/
theorem CI.copy (I : CI e m l1 l2 o0 Y G D s) (X : CX e m l1 l2 o0) {f : Nat} (hf : f ∈ l1) (hn : s.φ f = none) :
    ∃ Y' G', CI e m l1 l2 o0 (Y ++ Y') (G ++ G') D (s.copy e f) ∧ (s.copy e f).yd = s.yd ∧ (s.copy e f).gd = s.gd ∧ (s.copy e f).C = s.C ∧ (s.copy e f).φ f ≠ none ∧ (∀ g t, s.φ g = some t → (s.copy e f).φ g = some t) ∧ (∀ p ∈ Y' ++ G', ∀ k, k < szN (m.F p.1) → ¬ D (p.2 + 1 + k)) := by
  obtain ⟨h, N⟩ := X.num
  have hin := X.in1 hf
  have hno := I.fresh hn
  obtain ⟨hw, hc⟩ := I.can X hf hn
  have hr := N.room
  have h0 := N.le
  have hm1 := N.m1
  have hm0 := N.m0
  have hs0 := N.sep
  have hn1 := N.n1
  obtain ⟨b1, b2, b3, b4⟩ := I.place X N
  have ht := I.taken X (l := [f]) (List.nodup_cons.2 ⟨hno, I.nd⟩) (by simpa using hf)
  have ew : wordsP m.F [f] = 1 + szN (m.F f) := by simp [wordsP]
  have x0 := X.range f
  have hmono : ∀ a g t, s.φ g = some t → upd s.φ f a g = some t := fun a g t hg => by
    unfold upd
    by_cases e1 : g = f
    · rw [e1, hn] at hg; cases hg
    · rw [if_neg e1]; exact hg
  have hout : ∀ p, Placed l2 Y G p → p.2 + 1 + szN (m.F p.1) ≤ s.yt ∨ s.yt + 1 + szN (m.F f) ≤ p.2 := fun p hp => by
    rcases hp.out I X with ⟨_, p1, p2⟩ | ⟨_, p1, p2⟩ | ⟨_, p0, p1, p2⟩ <;> omega
  have hout2 : ∀ p, Placed l2 Y G p → p.2 + 1 + szN (m.F p.1) ≤ s.gt ∨ s.gt + 1 + szN (m.F f) ≤ p.2 := fun p hp => by
    rcases hp.out I X with ⟨_, p1, p2⟩ | ⟨_, p1, p2⟩ | ⟨_, p0, p1, p2⟩ <;> omega
  unfold CS.copy
  rw [hw]
  by_cases ha : e.tn ≤ m.F f / 1024 % 16
  · rw [if_pos ha]
    refine ⟨[], [(f, s.gt)], ?_, rfl, rfl, rfl, ?_, hmono s.gt, ?_⟩
    · rw [List.append_nil]
      refine I.grow X hf hn 0 (by omega) (by omega) rfl rfl rfl (by omega) hout2 (fun i h1 h2 => by omega) (fun i h1 h2 => by omega) (fun p => ?_) (fun p hp => Or.inr hp) (fun p hp => ?_) ?_ I.tY ?_
      · simp only [List.mem_append, List.mem_singleton]
        constructor
        · rintro (h | h | h)
          · exact Or.inr (Or.inl h)
          · exact Or.inr (Or.inr h)
          · exact Or.inl h
        · rintro (h | h | h)
          · exact Or.inr (Or.inr h)
          · exact Or.inl h
          · exact Or.inr (Or.inl h)
      · rcases List.mem_append.1 hp with hp | hp
        · exact Or.inr hp
        · exact Or.inl ⟨by simpa using hp, ha, rfl⟩
      · rw [← List.append_assoc, List.map_append]
        refine List.nodup_append.2 ⟨I.nd, by simp, fun a h1 b h2 e1 => ?_⟩
        simp only [List.map_cons, List.map_nil, List.mem_singleton] at h2
        rw [e1, h2] at h1
        exact hno h1
      · have := I.tG.snoc f
        rw [Nat.add_assoc] at this
        exact this
    · show upd s.φ f s.gt f ≠ none
      unfold upd
      rw [if_pos rfl]
      exact fun h => by cases h
    · intro p hp k hk hD
      have hp : p = (f, s.gt) := by simpa using hp
      obtain ⟨q, j, d⟩ := I.dn _ hD
      have h1 := hout2 q d.pl
      have h2 := d.at'
      have h3 := d.lt
      rw [hp] at h2 hk
      have h2 : s.gt + 1 + k = q.2 + 1 + j := h2
      have hk : k < szN (m.F f) := hk
      omega
  · rw [if_neg ha]
    have htn := X.tn1
    refine ⟨[(f, s.yt)], [], ?_, rfl, rfl, rfl, ?_, hmono s.yt, ?_⟩
    · rw [List.append_nil]
      refine I.grow X hf hn (m.F f / 1024 % 16 + 1) (by omega) (by omega) rfl rfl rfl (by omega) hout (fun i h1 h2 => by omega) (fun i h1 h2 => by omega) (fun p => ?_) (fun p hp => ?_) (fun p hp => Or.inr hp) ?_ ?_ I.tG
      · simp only [List.mem_append, List.mem_singleton]
        constructor
        · rintro ((h | h) | h)
          · exact Or.inr (Or.inl h)
          · exact Or.inl h
          · exact Or.inr (Or.inr h)
        · rintro (h | h | h)
          · exact Or.inl (Or.inr h)
          · exact Or.inl (Or.inl h)
          · exact Or.inr h
      · rcases List.mem_append.1 hp with hp | hp
        · exact Or.inr hp
        · exact Or.inl ⟨by simpa using hp, by omega, rfl⟩
      · have hp : ((f, s.yt) :: (Y ++ G)).Perm (Y ++ [(f, s.yt)] ++ G) := by
          rw [List.append_assoc]
          exact List.perm_middle.symm
        exact (hp.map Prod.fst).nodup_iff.1 (List.nodup_cons.2 ⟨hno, I.nd⟩)
      · have := I.tY.snoc f
        rw [Nat.add_assoc] at this
        exact this
    · show upd s.φ f s.yt f ≠ none
      unfold upd
      rw [if_pos rfl]
      exact fun h => by cases h
    · intro p hp k hk hD
      have hp : p = (f, s.yt) := by simpa using hp
      obtain ⟨q, j, d⟩ := I.dn _ hD
      have h1 := hout q d.pl
      have h2 := d.at'
      have h3 := d.lt
      rw [hp] at h2 hk
      have h2 : s.yt + 1 + k = q.2 + 1 + j := h2
      have hk : k < szN (m.F f) := hk
      omega
end Go.Proofs.YtnenggkgfhgcnaaGreatDoor

/- The nursery collected, plainly: words and fields follow. -/
namespace Go.Proofs.YtnenggkgfhgcnaaGreatDoor
open Go.RowKit

variable {e : CE} {m : MD} {l1 l2 : List Nat} {o0 : Nat} {Y G : List (Nat × Nat)} {D : Nat → Prop} {s : CS}
/-- Where a word that may stand in a field points to. -/
theorem held_pt {nW : Nat} {vs : List Nat} {x : Int} (h : fieldB nW (fun i => decide (i ∈ vs)) x = true) (hp : 0 ≤ ptI x) : (ptI x).toNat ∈ vs := by
  have h4 : x % 4 = 0 ∧ 4 ≤ x ∧ ptI x = x / 4 - 1 := by
    unfold ptI at hp ⊢
    split at hp
    · rename_i c; rw [if_pos c]; exact ⟨c.1, c.2.1, rfl⟩
    · omega
  unfold fieldB at h
  rw [if_neg (by omega), if_neg (by omega)] at h
  have hx : (x == 0) = false := by rw [beq_eq_false_iff_ne]; omega
  rw [hx, Bool.false_or] at h
  unfold ptrB at h
  rw [Bool.and_eq_true, Bool.and_eq_true] at h
  rw [h4.2.2]
  exact of_decide_eq_true h.2.2
/-- Lists that two states share. -/
structure Same (s s' : CS) : Prop where
  yd : s'.yd = s.yd
  gd : s'.gd = s.gd
  φ : ∀ f t, s.φ f = some t → s'.φ f = some t
theorem Same.refl (s : CS) : Same s s := ⟨rfl, rfl, fun _ _ h => h⟩
theorem Same.trans {s s' s'' : CS} (h : Same s s') (h' : Same s' s'') : Same s s'' := ⟨h'.yd.trans h.yd, h'.gd.trans h.gd, fun f t ht => h'.φ f t (h.φ f t ht)⟩
/-- Fields of these copies have not followed. -/
def NoneD (F : Nat → Int) (D : Nat → Prop) (L : List (Nat × Nat)) : Prop := ∀ p ∈ L, ∀ k, k < szN (F p.1) → ¬ D (p.2 + 1 + k)
theorem CX.pt1 (X : CX e m l1 l2 o0) {x : Int} (hx : fieldB m.W.length (fun i => decide (i ∈ l1 ++ l2)) x = true) (hp : 0 ≤ ptI x) (h2 : ptI x < (e.hi : Int)) : (ptI x).toNat ∈ l1 := by
  obtain ⟨h, N⟩ := X.num
  have hin := held_pt hx hp
  rcases List.mem_append.1 hin with hin | hin
  · exact hin
  · have := X.in2 hin
    have := N.m0
    have := N.hi
    have := N.sep
    omega
theorem CX.needs (X : CX e m l1 l2 o0) {x : Int} (hx : fieldB m.W.length (fun i => decide (i ∈ l1 ++ l2)) x = true) (hp : (nowP e.lo e.hi s.φ x).2 = false) : (ptI x).toNat ∈ l1 ∧ s.φ (ptI x).toNat = none := by
  unfold nowP at hp
  split at hp
  · rename_i hc
    cases hf : s.φ (ptI x).toNat with
    | none => exact ⟨X.pt1 hx hc.1 hc.2.2, rfl⟩
    | some t => rw [hf] at hp; cases hp
  · cases hp
/-- A word follows. -/
theorem CI.follow (I : CI e m l1 l2 o0 Y G D s) (X : CX e m l1 l2 o0) {x : Int} (hx : fieldB m.W.length (fun i => decide (i ∈ l1 ++ l2)) x = true) :
    ((nowP e.lo e.hi s.φ x).2 = false → CanCopy e s (ptI x).toNat ∧ ∀ f t, (s.copy e (ptI x).toNat).φ f = some t → t ≤ 300000) ∧
    ∃ Y' G', CI e m l1 l2 o0 (Y ++ Y') (G ++ G') D (s.follow e x) ∧ Same s (s.follow e x) ∧ (s.follow e x).C = s.C ∧ (nowP e.lo e.hi (s.follow e x).φ x).2 = true ∧ NoneD m.F D (Y' ++ G') := by
  cases hp : (nowP e.lo e.hi s.φ x).2 with
  | true =>
    have hf : s.follow e x = s := by unfold CS.follow; rw [hp]; rfl
    rw [hf]
    exact ⟨fun h => (by cases h), [], [], by rw [List.append_nil, List.append_nil]; exact I, Same.refl s, rfl, hp, fun p hp => by simp at hp⟩
  | false =>
    have hf : s.follow e x = s.copy e (ptI x).toNat := by unfold CS.follow; rw [hp]; rfl
    rw [hf]
    obtain ⟨h1, h2⟩ := X.needs hx hp
    obtain ⟨Y', G', I', e1, e2, e3, e4, e5, e6⟩ := I.copy X h1 h2
    refine ⟨fun _ => ⟨(I.can X h1 h2).2, (CSOK.of I' X).φ⟩, Y', G', I', ⟨e1, e2, e5⟩, e3, ?_, e6⟩
    unfold nowP
    split
    · cases hh : (s.copy e (ptI x).toNat).φ (ptI x).toNat with
      | none => exact absurd hh e4
      | some t => rfl
    · rfl
theorem getD_setB (C : List Bool) (a i : Nat) (x : Bool) (h : a < C.length) : (C.set a x).getD i false = if i = a then x else C.getD i false := by
  simp only [List.getD_eq_getElem?_getD]
  by_cases e : i = a
  · rw [if_pos e, e, List.getElem?_set_self h]; rfl
  · rw [if_neg e, List.getElem?_set_ne (fun h => e h.symm)]
/-- A field of an object that is there, not raw. -/
structure IsField (m : MD) (l2 : List Nat) (Y G : List (Nat × Nat)) (y : Nat) (p : Nat × Nat) (k : Nat) : Prop where
  at' : y = p.2 + 1 + k
  pl : Placed l2 Y G p
  lt : k < szN (m.F p.1)
  kd : ¬ m.F p.1 / 4 % 256 < 8
theorem Placed.more {p : Nat × Nat} (h : Placed l2 Y G p) (Y' G' : List (Nat × Nat)) : Placed l2 (Y ++ Y') (G ++ G') p := by
  rcases h with h | h
  · refine Or.inl ?_
    rcases List.mem_append.1 h with h | h <;> simp [h]
  · exact Or.inr h
theorem CI.src_mem (I : CI e m l1 l2 o0 Y G D s) {p : Nat × Nat} (h : Placed l2 Y G p) : p.1 ∈ l1 ++ l2 := by
  rcases h with h | h
  · exact List.mem_append.2 (Or.inl (I.sub p h))
  · exact List.mem_append.2 (Or.inr h.1)
theorem CI.field_lt (I : CI e m l1 l2 o0 Y G D s) (X : CX e m l1 l2 o0) {y k : Nat} {p : Nat × Nat} (f : IsField m l2 Y G y p k) : y < e.nW ∧ (y < m.n0 ∨ m.n1 ≤ y) := by
  obtain ⟨h, N⟩ := X.num
  obtain ⟨b1, b2, b3, b4⟩ := I.place X N
  have s1 := N.sep
  have s2 := N.m0
  have s3 := N.m1
  have s4 := N.room
  have s5 := N.n1
  have a1 := f.at'
  have a2 := f.lt
  rcases f.pl.out I X with ⟨_, p1, p2⟩ | ⟨_, p1, p2⟩ | ⟨_, p0, p1, p2⟩ <;> omega
/-- What a field holds that has not followed. -/
theorem CI.val (I : CI e m l1 l2 o0 Y G D s) (X : CX e m l1 l2 o0) {y k : Nat} {p : Nat × Nat} (f : IsField m l2 Y G y p k) (hD : ¬ D y) : s.W.getD y 0 = m.F (p.1 + 1 + k) := by
  have a1 := f.at'
  rcases f.pl with h | ⟨h1, h2⟩
  · rw [a1]; exact I.raw p h k f.lt (by rw [← a1]; exact hD)
  · have := X.in2 h1
    have hl := f.lt
    rw [I.old y (by omega) (by omega) hD, a1, h2]
theorem CI.one (I : CI e m l1 l2 o0 Y G D s) (X : CX e m l1 l2 o0) {y k j : Nat} {p q : Nat × Nat} (f : IsField m l2 Y G y p k) (g : IsField m l2 Y G y q j) : p = q ∧ k = j := by
  have a1 := f.at'
  have a2 := f.lt
  have b1 := g.at'
  have b2 := g.lt
  rcases I.apart X f.pl g.pl with h | h
  · refine ⟨h, ?_⟩; rw [h] at a1; omega
  · omega
/-- What was there is none of the new copies. -/
theorem CI.new_not {Y' G' : List (Nat × Nat)} (I : CI e m l1 l2 o0 (Y ++ Y') (G ++ G') D s) (X : CX e m l1 l2 o0) {p : Nat × Nat} (hp : Placed l2 Y G p) : p ∉ Y' ++ G' := fun hq => by
  obtain ⟨h, N⟩ := X.num
  rcases hp with h2 | ⟨h2, h3⟩
  · have hp1 : ((Y ++ G ++ (Y' ++ G')).map Prod.fst).Nodup := by
      refine (List.Perm.nodup_iff (List.Perm.map _ ?_)).1 I.nd
      rw [List.append_assoc, List.append_assoc]
      refine List.Perm.append_left _ ?_
      rw [← List.append_assoc, ← List.append_assoc]
      exact List.Perm.append_right _ List.perm_append_comm
    rw [List.map_append] at hp1
    exact (List.nodup_append.1 hp1).2.2 p.1 (List.mem_map.2 ⟨p, h2, rfl⟩) p.1 (List.mem_map.2 ⟨p, hq, rfl⟩) rfl
  · have h4 := I.sub p (by rcases List.mem_append.1 hq with hq | hq <;> simp [hq])
    have h5 := X.in1 h4
    have h6 := X.in2 h2
    have := N.m0
    have := N.sep
    have := N.n1
    omega
/-- A field follows. -/
theorem CI.field (I : CI e m l1 l2 o0 Y G D s) (X : CX e m l1 l2 o0) {y k : Nat} {p : Nat × Nat} (f : IsField m l2 Y G y p k) (hD : ¬ D y) :
    FieldOK e s y ∧ ∃ Y' G', CI e m l1 l2 o0 (Y ++ Y') (G ++ G') (fun z => D z ∨ z = y) (s.field e y) ∧ Same s (s.field e y) ∧ NoneD m.F (fun z => D z ∨ z = y) (Y' ++ G') := by
  obtain ⟨h, N⟩ := X.num
  have hv := I.val X f hD
  obtain ⟨hlt, hsr⟩ := I.field_lt X f
  have hx := X.S.held (I.src_mem f.pl) f.lt f.kd
  obtain ⟨hc, Y', G', I', hS, hC, hok, hN⟩ := I.follow X hx
  rw [← hv] at hc
  have O' := CSOK.of I' X
  refine ⟨⟨CSOK.of I X, hlt, hc, by rw [hv]; exact O', by rw [hv, hC]; exact I.clen⟩, Y', G', ?_, ?_, ?_⟩
  · obtain ⟨x, hxe⟩ : ∃ x, x = m.F (p.1 + 1 + k) := ⟨_, rfl⟩
    obtain ⟨s', hs'⟩ : ∃ s', s' = s.follow e x := ⟨_, rfl⟩
    obtain ⟨z, hz⟩ : ∃ z, z = (nowP e.lo e.hi s'.φ x).1 := ⟨_, rfl⟩
    rw [← hxe] at hv hok I'
    rw [← hs'] at hok I'
    have hX0 := X.range (p.1 + 1 + k)
    rw [← hxe] at hX0
    have hz01 : 0 ≤ z ∧ z < 18446744073709551616 := by rw [hz]; exact nowP_range (CSOK.of I' X).φ hX0.1 hX0.2
    have hyl : y < s'.W.length := by rw [I'.len]; exact hlt
    have f' : IsField m l2 (Y ++ Y') (G ++ G') y p k := ⟨f.at', f.pl.more Y' G', f.lt, f.kd⟩
    have hfe : s.field e y = CS.mark e { s' with W := s'.W.set y z } y := by
      unfold CS.field CS.put CS.word
      rw [hv, ← hs', ← hz]
    have hW : (s.field e y).W = s'.W.set y z := by rw [hfe]; unfold CS.mark; split <;> rfl
    have hφ : (s.field e y).φ = s'.φ := by rw [hfe]; unfold CS.mark; split <;> rfl
    have hyt : (s.field e y).yt = s'.yt := by rw [hfe]; unfold CS.mark; split <;> rfl
    have hgt : (s.field e y).gt = s'.gt := by rw [hfe]; unfold CS.mark; split <;> rfl
    have hWa : ∀ i, (s.field e y).W.getD i 0 = if i = y then z else s'.W.getD i 0 := fun i => by rw [hW]; exact getD_set _ _ _ _ hyl
    have hCl : (s.field e y).C.length = s'.C.length := by rw [hfe]; unfold CS.mark; split <;> simp
    have hcard : ∀ i, s'.C.getD i false = true → (s.field e y).C.getD i false = true := fun i hi => by
      rw [hfe]; unfold CS.mark
      split
      · show (s'.C.set _ true).getD i false = true
        by_cases hj : cardN e.half e.card y < s'.C.length
        · rw [getD_setB _ _ _ _ hj]; split
          · rfl
          · exact hi
        · rw [List.set_eq_of_length_le (by omega)]; exact hi
      · exact hi
    have hcy : m.m0 ≤ y → youngB m.half z = true → (s.field e y).C.getD (cardN m.half m.card y) false = true := fun h1 h2 => by
      have hw0 : (s'.W.set y z).getD y 0 = z := by rw [getD_set _ _ _ _ hyl, if_pos rfl]
      have h2h : 2 * m.half ≤ (y : Int) := by have := N.m0; have := N.half; omega
      obtain ⟨d, j, _, _, hjl, hcn⟩ := card_ix X.S.1 h2h (by rw [← N.nW]; exact hlt)
      rw [hfe]; unfold CS.mark
      rw [if_pos ⟨by rw [X.half]; exact h2h, by rw [X.half, hw0]; exact h2⟩, X.half, X.card, hcn]
      show (s'.C.set j true).getD j false = true
      rw [getD_setB _ _ _ _ (by rw [I'.clen, X.nC]; exact hjl), if_pos rfl]
    have hhead : ∀ q, Placed l2 (Y ++ Y') (G ++ G') q → q.2 ≠ y := fun q hq e1 => by
      have a1 := f'.at'
      have a2 := f'.lt
      rcases I'.apart X hq f'.pl with h1 | h1
      · rw [h1] at e1; omega
      · omega
    refine ⟨by rw [hyt]; exact I'.tY, by rw [hgt]; exact I'.tG, I'.nd, I'.sub, I'.ay, I'.ag, fun f t => by rw [hφ]; exact I'.φ f t, by rw [hW, List.length_set]; exact I'.len, by rw [hCl]; exact I'.clen, ?_, fun q hq => ?_, fun q hq => ?_, fun q hq j hj hn => ?_, fun i h1 h2 => ?_, fun i h1 h2 h3 => ?_, fun i hi => ?_⟩
    · rw [hW]
      intro u hu
      rcases List.mem_or_eq_of_mem_set hu with hu | rfl
      · exact I'.u64 u hu
      · exact hz01
    · rw [hWa, if_neg (hhead q (Or.inl (by simp only [List.mem_append] at hq ⊢; exact Or.inl hq)))]; exact I'.hy q hq
    · rw [hWa, if_neg (hhead q (Or.inl (by simp only [List.mem_append] at hq ⊢; exact Or.inr hq)))]; exact I'.hg q hq
    · rw [hWa, if_neg (fun e1 => hn (Or.inr e1))]
      exact I'.raw q hq j hj (fun h1 => hn (Or.inl h1))
    · rw [hWa, if_neg (by omega)]; exact I'.src i h1 h2
    · rw [hWa, if_neg (fun e1 => h3 (Or.inr e1))]
      exact I'.old i h1 h2 (fun h => h3 (Or.inl h))
    · by_cases e1 : i = y
      · refine ⟨p, k, by rw [e1]; exact f'.at', f'.pl, f'.lt, f'.kd, by rw [hφ, ← hxe]; exact hok, by rw [hWa, if_pos e1, hφ, ← hxe, hz], fun h1 h2 => ?_⟩
        rw [hWa, if_pos e1] at h2
        rw [e1] at h1 ⊢
        exact hcy h1 h2
      · have hi : D i := by rcases hi with hi | hi; exact hi; exact absurd hi e1
        obtain ⟨q, j, d⟩ := I'.dn i hi
        refine ⟨q, j, d.at', d.pl, d.lt, d.kd, by rw [hφ]; exact d.ok, by rw [hWa, if_neg e1, hφ]; exact d.is, fun h1 h2 => ?_⟩
        rw [hWa, if_neg e1] at h2
        exact hcard _ (d.card h1 h2)
  · have h1 : (s.field e y).yd = (s.follow e (m.F (p.1 + 1 + k))).yd := by unfold CS.field CS.put CS.mark; rw [hv]; split <;> rfl
    have h2 : (s.field e y).gd = (s.follow e (m.F (p.1 + 1 + k))).gd := by unfold CS.field CS.put CS.mark; rw [hv]; split <;> rfl
    have h3 : (s.field e y).φ = (s.follow e (m.F (p.1 + 1 + k))).φ := by unfold CS.field CS.put CS.mark; rw [hv]; split <;> rfl
    exact ⟨h1.trans hS.yd, h2.trans hS.gd, fun g t ht => by rw [h3]; exact hS.φ g t ht⟩
  · intro q hq j hj hd
    rcases hd with hd | hd
    · exact hN q hq j hj hd
    · have hq' : Placed l2 (Y ++ Y') (G ++ G') q := Or.inl (by
        rcases List.mem_append.1 hq with hq | hq <;> simp [hq])
      have hpp : Placed l2 (Y ++ Y') (G ++ G') p := f.pl.more Y' G'
      have a1 := f.at'
      have a2 := f.lt
      rcases I'.apart X hq' hpp with h1 | h1
      · rw [h1] at hq
        exact I'.new_not X f.pl hq
      · omega
end Go.Proofs.YtnenggkgfhgcnaaGreatDoor

/- The nursery collected, plainly: copies are gone through. -/
namespace Go.Proofs.YtnenggkgfhgcnaaGreatDoor
open Go.RowKit

variable {e : CE} {m : MD} {l1 l2 : List Nat} {o0 : Nat} {Y G : List (Nat × Nat)} {D : Nat → Prop} {s : CS}
/-- Fields of these objects have followed, but of raw ones. -/
def AllD (F : Nat → Int) (D : Nat → Prop) (L : List (Nat × Nat)) : Prop := ∀ p ∈ L, ¬ F p.1 / 4 % 256 < 8 → ∀ k, k < szN (F p.1) → D (p.2 + 1 + k)
/-- The first fields of an object follow. -/
theorem CI.fields (I : CI e m l1 l2 o0 Y G D s) (X : CX e m l1 l2 o0) {p : Nat × Nat} (hp : Placed l2 Y G p) (hk : ¬ m.F p.1 / 4 % 256 < 8) (hN : ∀ k, k < szN (m.F p.1) → ¬ D (p.2 + 1 + k)) : ∀ n, n ≤ szN (m.F p.1) →
    ∃ Y' G', CI e m l1 l2 o0 (Y ++ Y') (G ++ G') (fun z => D z ∨ ∃ k, k < n ∧ z = p.2 + 1 + k) (s.fieldsN e p.2 n) ∧ Same s (s.fieldsN e p.2 n) ∧ NoneD m.F (fun z => D z ∨ ∃ k, k < n ∧ z = p.2 + 1 + k) (Y' ++ G')
  | 0, _ => ⟨[], [], by
      rw [List.append_nil, List.append_nil]
      have e1 : (fun z => D z ∨ ∃ k, k < 0 ∧ z = p.2 + 1 + k) = D := by
        funext z; apply propext; constructor
        · rintro (h | ⟨k, h, _⟩)
          · exact h
          · omega
        · exact Or.inl
      rw [e1]; exact I, Same.refl s, fun q hq => by simp at hq⟩
  | n + 1, hn => by
    obtain ⟨Y1, G1, I1, S1, N1⟩ := I.fields X hp hk hN n (by omega)
    have f : IsField m l2 (Y ++ Y1) (G ++ G1) (p.2 + 1 + n) p n := ⟨rfl, hp.more Y1 G1, by omega, hk⟩
    obtain ⟨_, Y2, G2, I2, S2, N2⟩ := I1.field X f (by
      rintro (h | ⟨k, h1, h2⟩)
      · exact hN n (by omega) h
      · omega)
    have e1 : (fun z => (D z ∨ ∃ k, k < n ∧ z = p.2 + 1 + k) ∨ z = p.2 + 1 + n) = (fun z => D z ∨ ∃ k, k < n + 1 ∧ z = p.2 + 1 + k) := by
      funext z; apply propext; constructor
      · rintro ((h | ⟨k, h, h2⟩) | h)
        · exact Or.inl h
        · exact Or.inr ⟨k, by omega, h2⟩
        · exact Or.inr ⟨n, by omega, h⟩
      · rintro (h | ⟨k, h, h2⟩)
        · exact Or.inl (Or.inl h)
        · by_cases hk : k < n
          · exact Or.inl (Or.inr ⟨k, hk, h2⟩)
          · obtain rfl : k = n := by omega
            exact Or.inr h2
    rw [e1] at I2 N2
    rw [List.append_assoc, List.append_assoc] at I2
    refine ⟨Y1 ++ Y2, G1 ++ G2, I2, S1.trans S2, ?_⟩
    intro q hq k hk1 hD
    have hq : q ∈ Y1 ++ G1 ∨ q ∈ Y2 ++ G2 := by
      simp only [List.mem_append] at hq ⊢
      rcases hq with (h | h) | (h | h) <;> simp [h]
    rcases hq with hq | hq
    · rcases hD with hD | ⟨j, hj, hz⟩
      · exact N1 q hq k hk1 (Or.inl hD)
      · by_cases hjn : j < n
        · exact N1 q hq k hk1 (Or.inr ⟨j, hjn, hz⟩)
        · -- it is none of the object's own fields
          have hq' : Placed l2 (Y ++ Y1) (G ++ G1) q := Or.inl (by rcases List.mem_append.1 hq with h | h <;> simp [h])
          have g : IsField m l2 (Y ++ Y1) (G ++ G1) (p.2 + 1 + j) p j := ⟨rfl, hp.more Y1 G1, by omega, hk⟩
          rcases I1.apart X hq' g.pl with h1 | h1
          · rw [h1] at hq
            exact absurd hq (I1.new_not X hp)
          · omega
    · exact N2 q hq k hk1 hD
theorem CI.fieldOK (I : CI e m l1 l2 o0 Y G D s) (X : CX e m l1 l2 o0) {p : Nat × Nat} (hp : Placed l2 Y G p) (hk : ¬ m.F p.1 / 4 % 256 < 8) (hN : ∀ k, k < szN (m.F p.1) → ¬ D (p.2 + 1 + k)) (n : Nat) (hn : n < szN (m.F p.1)) : FieldOK e (s.fieldsN e p.2 n) (p.2 + 1 + n) := by
  obtain ⟨Y1, G1, I1, S1, N1⟩ := I.fields X hp hk hN n (by omega)
  have f : IsField m l2 (Y ++ Y1) (G ++ G1) (p.2 + 1 + n) p n := ⟨rfl, hp.more Y1 G1, hn, hk⟩
  exact (I1.field X f (by
    rintro (h | ⟨k, h1, h2⟩)
    · exact hN n hn h
    · omega)).1
theorem CI.setd (I : CI e m l1 l2 o0 Y G D s) (a b : Nat) : CI e m l1 l2 o0 Y G D { s with yd := a, gd := b } :=
  ⟨I.tY, I.tG, I.nd, I.sub, I.ay, I.ag, I.φ, I.len, I.clen, I.u64, I.hy, I.hg, I.raw, I.src, I.old, fun y hy => by
    obtain ⟨p, k, d⟩ := I.dn y hy
    exact ⟨p, k, d.at', d.pl, d.lt, d.kd, d.ok, d.is, d.card⟩⟩
/-- What holds between two objects that are gone through. -/
def SI (e : CE) (m : MD) (l1 l2 : List Nat) (o0 : Nat) (s : CS) : Prop := ∃ Y1 Y2 G1 G2 D, CI e m l1 l2 o0 (Y1 ++ Y2) (G1 ++ G2) D s ∧ Tiled m.F o0 Y1 s.yd ∧ Tiled m.F m.m1 G1 s.gd ∧ AllD m.F D (Y1 ++ G1) ∧ NoneD m.F D (Y2 ++ G2) ∧ AllD m.F D (l2.map fun f => (f, f))
/-- A copy is gone through. -/
theorem CI.obj (I : CI e m l1 l2 o0 Y G D s) (X : CX e m l1 l2 o0) {p : Nat × Nat} (hp : p ∈ Y ++ G) (hN : ∀ k, k < szN (m.F p.1) → ¬ D (p.2 + 1 + k)) :
    szN (s.W.getD p.2 0) = szN (m.F p.1) ∧ ObjOK e s p.2 ∧ ∃ Y' G' D', CI e m l1 l2 o0 (Y ++ Y') (G ++ G') D' (s.obj e p.2) ∧ Same s (s.obj e p.2) ∧ NoneD m.F D' (Y' ++ G') ∧ AllD m.F D' [p] ∧ (∀ z, D z → D' z) ∧ ∀ z, D' z → D z ∨ ∃ k, k < szN (m.F p.1) ∧ z = p.2 + 1 + k := by
  have hin := I.sub p hp
  have hx := X.range p.1
  have hd := X.head (f := p.1) (by simp [hin])
  have hage : (0 : Int) ≤ m.F p.1 / 1024 % 16 := by omega
  have hf : headB (s.W.getD p.2 0) = true ∧ szN (s.W.getD p.2 0) = szN (m.F p.1) ∧ s.W.getD p.2 0 / 4 % 256 = m.F p.1 / 4 % 256 := by
    rcases List.mem_append.1 hp with h | h
    · rw [I.hy p h]
      have := I.ay p h
      have := X.tn1
      obtain ⟨a1, a2, _, _, a5, _⟩ := hdW_facts hd hx.1 (g := m.F p.1 / 1024 % 16 + 1) (by omega) (by omega)
      exact ⟨a5, by unfold szN; rw [a1], a2⟩
    · rw [I.hg p h]
      obtain ⟨a1, a2, _, _, a5, _⟩ := hdW_facts hd hx.1 (g := 0) (by omega) (by omega)
      exact ⟨a5, by unfold szN; rw [a1], a2⟩
  obtain ⟨h1, h2, h3⟩ := hf
  obtain ⟨h, N⟩ := X.num
  obtain ⟨b1, b2, b3, b4⟩ := I.place X N
  have s1 := N.sep
  have s2 := N.m0
  have s3 := N.m1
  have s4 := N.room
  refine ⟨h2, ⟨CSOK.of I X, h1, ?_, fun hk k hk1 => ?_⟩, ?_⟩
  · rw [h2]
    rcases Placed.out I X (Or.inl hp) with ⟨_, p1, p2⟩ | ⟨_, p1, p2⟩ | ⟨_, p0, p1, p2⟩ <;> omega
  · rw [h3] at hk
    rw [h2] at hk1
    exact I.fieldOK X (Or.inl hp) hk hN k hk1
  · by_cases hk : m.F p.1 / 4 % 256 < 8
    · have ho : s.obj e p.2 = s := by unfold CS.obj; rw [h3, if_pos hk]
      rw [ho]
      refine ⟨[], [], D, by rw [List.append_nil, List.append_nil]; exact I, Same.refl s, fun q hq => by simp at hq, fun q hq hk1 => ?_, fun z h => h, fun z h => Or.inl h⟩
      obtain rfl : q = p := by simpa using hq
      exact absurd hk hk1
    · have ho : s.obj e p.2 = s.fieldsN e p.2 (szN (m.F p.1)) := by unfold CS.obj; rw [h3, if_neg hk, h2]
      rw [ho]
      obtain ⟨Y', G', I', S', N'⟩ := I.fields X (Or.inl hp) hk hN _ (Nat.le_refl _)
      refine ⟨Y', G', _, I', S', N', fun q hq _ k hk1 => ?_, fun z h => Or.inl h, fun z h => h⟩
      obtain rfl : q = p := by simpa using hq
      exact Or.inr ⟨k, hk1, rfl⟩
theorem SI.step {Y1 Y2 G1 G2 : List (Nat × Nat)} (X : CX e m l1 l2 o0) (I : CI e m l1 l2 o0 (Y1 ++ Y2) (G1 ++ G2) D s) (hA : AllD m.F D (Y1 ++ G1)) (hO : AllD m.F D (l2.map fun f => (f, f))) {p : Nat × Nat} {R : List (Nat × Nat)} (hR : ∀ q, q ∈ Y2 ++ G2 → q = p ∨ q ∈ R) (hNR : NoneD m.F D (Y2 ++ G2)) (hRs : ∀ q ∈ R, q ∈ Y2 ++ G2 ∧ q ≠ p) (hp : p ∈ Y2 ++ G2) :
    szN (s.W.getD p.2 0) = szN (m.F p.1) ∧ ObjOK e s p.2 ∧ ∃ Y' G' D', CI e m l1 l2 o0 (Y1 ++ Y2 ++ Y') (G1 ++ G2 ++ G') D' (s.obj e p.2) ∧ Same s (s.obj e p.2) ∧ NoneD m.F D' (R ++ (Y' ++ G')) ∧ AllD m.F D' (p :: (Y1 ++ G1)) ∧ AllD m.F D' (l2.map fun f => (f, f)) := by
  have hpm : p ∈ Y1 ++ Y2 ++ (G1 ++ G2) := by
    simp only [List.mem_append] at hp ⊢
    rcases hp with h | h <;> simp [h]
  obtain ⟨h1, h2, Y', G', D', I', S', N', A', hD1, hD2⟩ := I.obj X hpm (hNR p hp)
  refine ⟨h1, h2, Y', G', D', I', S', ?_, ?_, fun q hq hk k hk1 => hD1 _ (hO q hq hk k hk1)⟩
  · intro q hq k hk hd
    rcases List.mem_append.1 hq with hq | hq
    · obtain ⟨hq1, hq2⟩ := hRs q hq
      rcases hD2 _ hd with h | ⟨j, hj, hz⟩
      · exact hNR q hq1 k hk h
      · have hqm : q ∈ Y1 ++ Y2 ++ (G1 ++ G2) := by
          simp only [List.mem_append] at hq1 ⊢
          rcases hq1 with h | h <;> simp [h]
        rcases I.apart X (Or.inl hqm) (Or.inl hpm) with h | h
        · exact hq2 h
        · omega
    · exact N' q hq k hk hd
  · intro q hq hk k hk1
    rcases List.mem_cons.1 hq with rfl | hq
    · exact A' q (by simp) hk k hk1
    · exact hD1 _ (hA q hq hk k hk1)
/-- How much is left to be gone through, at most. -/
def scanM (e : CE) (o0 h : Nat) (s : CS) : Nat := (o0 + h - s.yd) + (e.nW - s.gd)
theorem Tiled.nodup {F : Nat → Int} {L : List (Nat × Nat)} {a b : Nat} (h : Tiled F a L b) : ∀ {L1 L2 : List (Nat × Nat)} {p : Nat × Nat}, L = L1 ++ p :: L2 → ∀ q ∈ L2, q ≠ p := fun {L1 L2 p} e1 q hq e2 => by
  rw [e1] at h
  obtain ⟨c, _, h2⟩ := h.split
  have h3 := h2.1
  have h4 := Tiled.mem h2.2 q hq
  rw [e2] at h4
  omega
theorem SI.scanY (X : CX e m l1 l2 o0) {h : Nat} (N : CN e m o0 h) (hs : SI e m l1 l2 o0 s) : s.yd ≤ 300000 ∧ s.yt ≤ 300000 ∧ (s.yd < s.yt → ObjOK e s s.yd ∧ SI e m l1 l2 o0 (s.scanY e) ∧ (∀ f t, s.φ f = some t → (s.scanY e).φ f = some t) ∧ scanM e o0 h (s.scanY e) < scanM e o0 h s) := by
  obtain ⟨Y1, Y2, G1, G2, D, I, t1, t2, hA, hN, hO⟩ := hs
  have O := CSOK.of I X
  obtain ⟨c, u1, u2⟩ := I.tY.split
  obtain rfl := u1.uniq t1
  have hle := u2.le
  obtain ⟨b1, b2, b3, b4⟩ := I.place X N
  have hyt := O.yt
  refine ⟨by omega, hyt, fun hlt => ?_⟩
  cases Y2 with
  | nil => have u2 : _ = _ := u2; omega
  | cons p Y2 =>
    obtain ⟨p0, u3⟩ := u2
    obtain ⟨h1, h2, Y', G', D', I', S', N', A', hO'⟩ := SI.step (R := Y2 ++ G2) X I hA hO (p := p) (fun q hq => by
      simp only [List.cons_append, List.mem_cons] at hq
      exact hq) hN (fun q hq => by
      refine ⟨by simp only [List.cons_append, List.mem_cons]; exact Or.inr hq, fun e1 => ?_⟩
      rcases List.mem_append.1 hq with hq | hq
      · exact I.tY.nodup (L1 := Y1) (L2 := Y2) rfl q hq e1
      · have a1 := I.tY.mem p (by simp)
        have a2 := I.tG.mem q (by simp [hq])
        have := N.sep
        have := N.m0
        have := N.m1
        rw [e1] at a2
        omega) (by simp)
    rw [p0] at h1 h2 I' S'
    refine ⟨h2, ⟨Y1 ++ [p], Y2 ++ Y', G1, G2 ++ G', D', ?_, ?_, ?_, ?_, ?_, hO'⟩, S'.φ, ?_⟩
    · have I2 := I'.setd (s.yd + 1 + szN (s.W.getD s.yd 0)) s.gd
      have e1 : Y1 ++ p :: Y2 ++ Y' = Y1 ++ [p] ++ (Y2 ++ Y') := by simp
      have e2 : G1 ++ G2 ++ G' = G1 ++ (G2 ++ G') := by simp
      rw [e1, e2] at I2
      have e3 : s.scanY e = { s.obj e s.yd with yd := s.yd + 1 + szN (s.W.getD s.yd 0), gd := s.gd } := by unfold CS.scanY; rw [← S'.gd]
      rw [e3]
      exact I2
    · show Tiled m.F o0 (Y1 ++ [p]) (s.yd + 1 + szN (s.W.getD s.yd 0))
      rw [h1]
      exact t1.append ⟨p0, rfl⟩
    · show Tiled m.F m.m1 G1 (s.obj e s.yd).gd
      rw [S'.gd]; exact t2
    · intro q hq
      refine A' q ?_
      simp at hq
      simp only [List.mem_append, List.mem_cons]
      rcases hq with h | h | h <;> simp [h]
    · intro q hq
      refine N' q ?_
      simp only [List.mem_append] at hq ⊢
      rcases hq with (h | h) | (h | h) <;> simp [h]
    · have g1 : (s.scanY e).gd = s.gd := S'.gd
      have g2 : (s.scanY e).yd = s.yd + 1 + szN (s.W.getD s.yd 0) := rfl
      unfold scanM
      rw [g1, g2]
      omega
theorem SI.scanG (X : CX e m l1 l2 o0) {h : Nat} (N : CN e m o0 h) (hs : SI e m l1 l2 o0 s) : s.gd ≤ 300000 ∧ s.gt ≤ 300000 ∧ (s.gd < s.gt → ObjOK e s s.gd ∧ SI e m l1 l2 o0 (s.scanG e) ∧ (∀ f t, s.φ f = some t → (s.scanG e).φ f = some t) ∧ scanM e o0 h (s.scanG e) < scanM e o0 h s) := by
  obtain ⟨Y1, Y2, G1, G2, D, I, t1, t2, hA, hN, hO⟩ := hs
  have O := CSOK.of I X
  obtain ⟨c, u1, u2⟩ := I.tG.split
  obtain rfl := u1.uniq t2
  have hle := u2.le
  obtain ⟨b1, b2, b3, b4⟩ := I.place X N
  have hgt := O.gt
  refine ⟨by omega, hgt, fun hlt => ?_⟩
  cases G2 with
  | nil => have u2 : _ = _ := u2; omega
  | cons p G2 =>
    obtain ⟨p0, u3⟩ := u2
    obtain ⟨h1, h2, Y', G', D', I', S', N', A', hO'⟩ := SI.step (R := Y2 ++ G2) X I hA hO (p := p) (fun q hq => by
      simp only [List.mem_append, List.mem_cons] at hq ⊢
      rcases hq with h | h | h <;> simp [h]) hN (fun q hq => by
      refine ⟨by simp only [List.mem_append, List.mem_cons] at hq ⊢; rcases hq with h | h <;> simp [h], fun e1 => ?_⟩
      rcases List.mem_append.1 hq with hq | hq
      · have a1 := I.tG.mem p (by simp)
        have a2 := I.tY.mem q (by simp [hq])
        have := N.sep
        have := N.m0
        have := N.m1
        rw [e1] at a2
        omega
      · exact I.tG.nodup (L1 := G1) (L2 := G2) rfl q hq e1) (by simp)
    rw [p0] at h1 h2 I' S'
    refine ⟨h2, ⟨Y1, Y2 ++ Y', G1 ++ [p], G2 ++ G', D', ?_, ?_, ?_, ?_, ?_, hO'⟩, S'.φ, ?_⟩
    · have I2 := I'.setd s.yd (s.gd + 1 + szN (s.W.getD s.gd 0))
      have e1 : G1 ++ p :: G2 ++ G' = G1 ++ [p] ++ (G2 ++ G') := by simp
      have e2 : Y1 ++ Y2 ++ Y' = Y1 ++ (Y2 ++ Y') := by simp
      rw [e1, e2] at I2
      have e3 : s.scanG e = { s.obj e s.gd with yd := s.yd, gd := s.gd + 1 + szN (s.W.getD s.gd 0) } := by unfold CS.scanG; rw [← S'.yd]
      rw [e3]
      exact I2
    · show Tiled m.F o0 Y1 (s.obj e s.gd).yd
      rw [S'.yd]; exact t1
    · show Tiled m.F m.m1 (G1 ++ [p]) (s.gd + 1 + szN (s.W.getD s.gd 0))
      rw [h1]
      exact t2.append ⟨p0, rfl⟩
    · intro q hq
      refine A' q ?_
      simp at hq
      simp only [List.mem_append, List.mem_cons]
      rcases hq with h | h | h <;> simp [h]
    · intro q hq
      refine N' q ?_
      simp only [List.mem_append] at hq ⊢
      rcases hq with (h | h) | (h | h) <;> simp [h]
    · have g1 : (s.scanG e).yd = s.yd := S'.yd
      have g2 : (s.scanG e).gd = s.gd + 1 + szN (s.W.getD s.gd 0) := rfl
      unfold scanM
      rw [g1, g2]
      omega
/-- All has been gone through. -/
def Gone (e : CE) (m : MD) (l1 l2 : List Nat) (o0 : Nat) (s : CS) : Prop := ∃ Y G D, CI e m l1 l2 o0 Y G D s ∧ AllD m.F D (Y ++ G) ∧ AllD m.F D (l2.map fun f => (f, f))
theorem SI.fin (hs : SI e m l1 l2 o0 s) (h1 : ¬ s.yd < s.yt) (h2 : ¬ s.gd < s.gt) : Gone e m l1 l2 o0 s := by
  obtain ⟨Y1, Y2, G1, G2, D, I, t1, t2, hA, hN, hO⟩ := hs
  obtain ⟨c, u1, u2⟩ := I.tY.split
  obtain rfl := u1.uniq t1
  obtain ⟨d, v1, v2⟩ := I.tG.split
  obtain rfl := v1.uniq t2
  have w1 : Y2 = [] := by
    cases Y2 with
    | nil => rfl
    | cons p L => have := Tiled.le u2.2; omega
  have w2 : G2 = [] := by
    cases G2 with
    | nil => rfl
    | cons p L => have := Tiled.le v2.2; omega
  rw [w1, w2, List.append_nil, List.append_nil] at I
  exact ⟨Y1, G1, D, I, hA, hO⟩
end Go.Proofs.YtnenggkgfhgcnaaGreatDoor

/- The nursery collected, plainly: what there is behind it. -/
namespace Go.Proofs.YtnenggkgfhgcnaaGreatDoor
open Go.RowKit

variable {e : CE} {m : MD} {l1 l2 : List Nat} {o0 : Nat} {Y G : List (Nat × Nat)} {D : Nat → Prop} {s : CS}
/-- Where an object is by now. -/
def CS.at (s : CS) (f : Nat) : Nat := (s.φ f).getD f
/-- Which objects are there still. -/
def CS.has (s : CS) (l2 : List Nat) (f : Nat) : Prop := f ∈ l2 ∨ ∃ t, s.φ f = some t
/-- A memory behind a collection of the nursery. -/
def CS.mem (e : CE) (m : MD) (o0 : Nat) (s : CS) : MD := ⟨m.half, m.old, m.card, 1 - m.used, (s.yt : Int) - (o0 : Int), (s.gt : Int) - (m.m0 : Int), s.W, m.R.map (fun x => (nowP e.lo e.hi s.φ x).1), m.K.map (fun x => (nowP e.lo e.hi s.φ x).1), idsP (nowP e.lo e.hi s.φ) m.I, s.C⟩
theorem CX.apart (X : CX e m l1 l2 o0) {f : Nat} (h1 : f ∈ l1) (h2 : f ∈ l2) : False := by
  obtain ⟨h, N⟩ := X.num
  have a1 := X.in1 h1
  have a2 := X.in2 h2
  have := N.m0
  have := N.sep
  have := N.n1
  omega
theorem CI.old_none (I : CI e m l1 l2 o0 Y G D s) (X : CX e m l1 l2 o0) {f : Nat} (h : f ∈ l2) : s.φ f = none := by
  cases hf : s.φ f with
  | none => rfl
  | some t => exact (X.apart (I.sub _ ((I.φ f t).1 hf)) h).elim
theorem CI.has_pl (I : CI e m l1 l2 o0 Y G D s) (X : CX e m l1 l2 o0) {f : Nat} (h : s.has l2 f) : Placed l2 Y G (f, s.at f) := by
  rcases h with h | ⟨t, h⟩
  · refine Or.inr ⟨h, ?_⟩
    show (s.φ f).getD f = f
    rw [I.old_none X h]; rfl
  · refine Or.inl ?_
    have : s.at f = t := by unfold CS.at; rw [h]; rfl
    rw [this]
    exact (I.φ f t).1 h
theorem CI.pl_has (I : CI e m l1 l2 o0 Y G D s) (X : CX e m l1 l2 o0) {p : Nat × Nat} (h : Placed l2 Y G p) : s.has l2 p.1 ∧ s.at p.1 = p.2 := by
  rcases h with h | ⟨h, h2⟩
  · have := (I.φ p.1 p.2).2 h
    exact ⟨Or.inr ⟨_, this⟩, by unfold CS.at; rw [this]; rfl⟩
  · refine ⟨Or.inl h, ?_⟩
    unfold CS.at
    rw [I.old_none X h, h2]; rfl
/-- A word that followed has become what its object's place says. -/
theorem CI.now (I : CI e m l1 l2 o0 Y G D s) (X : CX e m l1 l2 o0) {x : Int} (hx : fieldB m.W.length (fun i => decide (i ∈ l1 ++ l2)) x = true) (ho : (nowP e.lo e.hi s.φ x).2 = true) : (nowP e.lo e.hi s.φ x).1 = mvI s.at x ∧ PtIn (s.has l2) x := by
  obtain ⟨h, N⟩ := X.num
  by_cases hp : 0 ≤ ptI x
  · have hin := held_pt hx hp
    have h4 : x = (ptI x + 1) * 4 := by
      unfold ptI at hp ⊢
      split at hp
      · rename_i c; rw [if_pos c]; omega
      · omega
    unfold mvI PtIn
    rw [if_pos hp]
    unfold nowP at ho ⊢
    by_cases hc : 0 ≤ ptI x ∧ (e.lo : Int) ≤ ptI x ∧ ptI x < (e.hi : Int)
    · rw [if_pos hc] at ho ⊢
      cases hf : s.φ (ptI x).toNat with
      | none => rw [hf] at ho; cases ho
      | some t =>
        have : s.at (ptI x).toNat = t := by unfold CS.at; rw [hf]; rfl
        rw [this]
        exact ⟨rfl, fun _ => Or.inr ⟨t, hf⟩⟩
    · rw [if_neg hc] at ho ⊢
      rcases List.mem_append.1 hin with hin | hin
      · have a1 := X.in1 hin
        have := N.lo
        have := N.hi
        have := N.n1
        omega
      · have : s.at (ptI x).toNat = (ptI x).toNat := by unfold CS.at; rw [I.old_none X hin]; rfl
        rw [this]
        exact ⟨by show x = _; omega, fun _ => Or.inl hin⟩
  · refine ⟨?_, fun h => absurd h hp⟩
    unfold nowP
    rw [if_neg (fun h => hp h.1), mv_no hp]
/-- All that is told of a memory behind a collection of the nursery. -/
structure Coll (e : CE) (m n : MD) (l1 l2 : List Nat) (us : List Nat) (S : Nat → Prop) (ψ : Nat → Nat) : Prop where
  shape : n.Shape us
  h64 : MD64 n
  cards : n.cardsB = true
  iso : Iso m.F n.F S ψ
  roots : n.R = m.R.map (mvI ψ)
  rin : ∀ x ∈ m.R, PtIn S x
  old : ∀ f ∈ l2, S f ∧ ψ f = f
  in' : ∀ f, S f → f ∈ l1 ++ l2 ∧ ψ f ∈ us
  young : ∀ f, S f → f ∈ l1 → ((ψ f : Int) < 2 * m.half ↔ m.F f / 1024 % 16 < e.tn) ∧ (m.F f / 1024 % 16 < e.tn → n.F (ψ f) / 1024 % 16 = m.F f / 1024 % 16 + 1)
  out : ∀ t ∈ us, ∃ f, S f ∧ ψ f = t
  half : n.half = m.half
  hold : n.old = m.old
  card : n.card = m.card
  used : n.used = 1 - m.used
  top : n.top ≤ m.top
  oldTop : m.oldTop ≤ n.oldTop
  none : (∀ f ∈ l1, e.tn ≤ m.F f / 1024 % 16) → n.top = 0
  klen : n.K.length = m.K.length
  weak : ∀ i, i < m.K.length → (PtIn S (m.K.getD i 0) ∧ n.K.getD i 0 = mvI ψ (m.K.getD i 0)) ∨ (0 ≤ ptI (m.K.getD i 0) ∧ ¬ S (ptI (m.K.getD i 0)).toNat ∧ n.K.getD i 0 = 2)
  ids : ∃ c : Int × Int → Bool, n.I = (m.I.filter c).map (fun x => (mvI ψ x.1, x.2)) ∧ ∀ x ∈ m.I, c x = true ↔ S (ptI x.1).toNat
theorem fieldB_mv {nW : Nat} {vs us : List Nat} {S : Nat → Prop} {ψ : Nat → Nat} {x : Int} (hu : ∀ f, S f → ψ f ∈ us ∧ ψ f < nW) (hx : fieldB nW (fun i => decide (i ∈ vs)) x = true) (hp : PtIn S x) (hv : ∀ v ∈ vs, v < 300000) : fieldB nW (fun i => decide (i ∈ us)) (mvI ψ x) = true := by
  by_cases h : 0 ≤ ptI x
  · obtain ⟨h1, h2⟩ := hu _ (hp h)
    unfold mvI
    rw [if_pos h]
    unfold fieldB
    rw [if_neg (by omega), if_neg (by omega)]
    have e1 : ((((ψ (ptI x).toNat : Nat) : Int) + 1) * 4 == 0) = false := by rw [beq_eq_false_iff_ne]; omega
    rw [e1, Bool.false_or]
    unfold ptrB
    have e2 : ((((ψ (ptI x).toNat : Nat) : Int) + 1) * 4 / 4 - 1).toNat = ψ (ptI x).toNat := by omega
    rw [e2, decide_eq_true (by omega), decide_eq_true h2]
    show (true && (true && decide (ψ (ptI x).toNat ∈ us))) = true
    rw [decide_eq_true h1]; rfl
  · rw [mv_no h]
    unfold fieldB at hx ⊢
    by_cases h1 : x % 4 = 1
    · rw [if_pos h1]
    · rw [if_neg h1] at hx ⊢
      by_cases h2 : x % 4 = 2
      · rw [if_pos h2] at hx ⊢; exact hx
      · rw [if_neg h2] at hx ⊢
        rcases Bool.or_eq_true _ _ ▸ hx with hx | hx
        · rw [hx, Bool.true_or]
        · exfalso
          unfold ptrB at hx
          rw [Bool.and_eq_true, Bool.and_eq_true] at hx
          have a1 := of_decide_eq_true hx.1
          have a2 := hv _ (of_decide_eq_true hx.2.2)
          apply h
          unfold ptI
          rw [if_pos ⟨a1.1, a1.2, by omega⟩]
          omega
theorem idsB_iff {nH : Nat} {hb : Nat → Bool} {l : List (Int × Int)} : idsB nH hb l = true ↔ (∀ x ∈ l, ptrB nH hb x.1 = true ∧ 1 ≤ x.2) ∧ l.Pairwise (fun x y => x.1 ≠ y.1 ∧ x.2 ≠ y.2) := by
  have key : ∀ i (hi : i < l.length), idB nH hb l i = (ptrB nH hb l[i].1 && (decide (1 ≤ l[i].2) && ((l.take i).all (fun y => !(y.1 == l[i].1)) && (l.take i).all (fun y => !(y.2 == l[i].2))))) := fun i hi => by
    unfold idB
    rw [List.getElem?_eq_getElem hi]
    have a1 : (l.map (·.1))[i]? = some l[i].1 := by rw [List.getElem?_map, List.getElem?_eq_getElem hi]; rfl
    have a2 : (l.map (·.2))[i]? = some l[i].2 := by rw [List.getElem?_map, List.getElem?_eq_getElem hi]; rfl
    have b1 := count_last a1
    have b2 := count_last a2
    rw [← List.map_take] at b1 b2
    rw [← List.map_take, List.all_map] at b1 b2
    show (ptrB nH hb l[i].1 && (decide (1 ≤ l[i].2) && (decide (((l.take (i + 1)).map (·.1)).count l[i].1 ≤ 1) && decide (((l.take (i + 1)).map (·.2)).count l[i].2 ≤ 1)))) = _
    rw [b1, b2]
    rfl
  unfold idsB
  rw [List.all_eq_true]
  constructor
  · intro h
    have hk : ∀ i (hi : i < l.length), ptrB nH hb l[i].1 = true ∧ 1 ≤ l[i].2 ∧ (∀ y ∈ l.take i, y.1 ≠ l[i].1 ∧ y.2 ≠ l[i].2) := fun i hi => by
      have := h i (List.mem_range.2 hi)
      rw [key i hi, Bool.and_eq_true, Bool.and_eq_true, Bool.and_eq_true, List.all_eq_true, List.all_eq_true] at this
      refine ⟨this.1, of_decide_eq_true this.2.1, fun y hy => ?_⟩
      have c1 := this.2.2.1 y hy
      have c2 := this.2.2.2 y hy
      simp at c1 c2
      exact ⟨c1, c2⟩
    refine ⟨fun x hx => ?_, ?_⟩
    · obtain ⟨i, hi, rfl⟩ := List.mem_iff_getElem.1 hx
      exact ⟨(hk i hi).1, (hk i hi).2.1⟩
    · rw [List.pairwise_iff_getElem]
      intro i j hi hj hij
      exact (hk j hj).2.2 _ (List.mem_iff_getElem.2 ⟨i, by rw [List.length_take]; omega, by rw [List.getElem_take]⟩)
  · rintro ⟨h1, h2⟩ i hi
    have hi := List.mem_range.1 hi
    rw [key i hi, Bool.and_eq_true, Bool.and_eq_true, Bool.and_eq_true, List.all_eq_true, List.all_eq_true]
    have a := h1 l[i] (List.getElem_mem _)
    rw [List.pairwise_iff_getElem] at h2
    have hk : ∀ y ∈ l.take i, y.1 ≠ l[i].1 ∧ y.2 ≠ l[i].2 := fun y hy => by
      obtain ⟨j, hj, rfl⟩ := List.mem_iff_getElem.1 hy
      rw [List.length_take] at hj
      rw [List.getElem_take]
      exact h2 j i (by omega) hi (by omega)
    exact ⟨a.1, decide_eq_true a.2, fun y hy => by simp [(hk y hy).1], fun y hy => by simp [(hk y hy).2]⟩
end Go.Proofs.YtnenggkgfhgcnaaGreatDoor

/- The nursery collected, plainly: a memory behind it is right, and its objects are the same. -/
namespace Go.Proofs.YtnenggkgfhgcnaaGreatDoor
open Go.RowKit

variable {e : CE} {m : MD} {l1 l2 : List Nat} {o0 : Nat} {Y G : List (Nat × Nat)} {D : Nat → Prop} {s : CS}
theorem CX.g1 (X : CX e m l1 l2 o0) : (∀ f ∈ l1, m.F f / 16384 % 2 = 0) ∧ (∀ f ∈ l2, m.F f / 16384 % 2 = 0 ∧ m.F f / 1024 % 16 = 0) := by
  obtain ⟨h, N⟩ := X.num
  refine ⟨fun f hf => of_decide_eq_true (List.all_eq_true.1 (walkP_some.1 X.w1).2 f hf), fun f hf => ⟨of_decide_eq_true (List.all_eq_true.1 (walkP_some.1 X.w2).2 f hf), ?_⟩⟩
  have ho := X.S.2.1
  unfold MD.objs at ho
  split at ho
  · rename_i a1 a2 k1 k2
    have c2 := walkP_some.1 k2
    have e2 : a2 = l2 := by
      have := (walkP_some.1 X.w2).1
      rw [c2.1] at this
      exact Option.some.inj this
    have := List.all_eq_true.1 c2.2 f (by rw [e2]; exact hf)
    unfold G1 at this
    rw [Bool.and_eq_true, Bool.or_eq_true] at this
    rcases this.2 with h1 | h1
    · have h1 := of_decide_eq_true h1
      have := X.in2 hf
      have := N.m0
      have := N.half
      omega
    · exact of_decide_eq_true h1
  · cases ho
/-- What a header says behind a collection. -/
theorem CI.hdr (I : CI e m l1 l2 o0 Y G D s) (X : CX e m l1 l2 o0) {p : Nat × Nat} (hp : Placed l2 Y G p) :
    headB (s.W.getD p.2 0) = true ∧ szN (s.W.getD p.2 0) = szN (m.F p.1) ∧ s.W.getD p.2 0 / 4 % 256 = m.F p.1 / 4 % 256 ∧ s.W.getD p.2 0 / 16384 % 2 = 0 ∧ (p ∈ Y → s.W.getD p.2 0 / 1024 % 16 = m.F p.1 / 1024 % 16 + 1) ∧ (p ∉ Y → s.W.getD p.2 0 / 1024 % 16 = 0) := by
  have hin := I.src_mem hp
  have hx := X.range p.1
  have hd := X.head hin
  obtain ⟨g1, g2⟩ := X.g1
  by_cases hy : p ∈ Y
  · rw [I.hy p hy]
    have := I.ay p hy
    have := X.tn1
    obtain ⟨a1, a2, a3, a4, a5, _⟩ := hdW_facts hd hx.1 (g := m.F p.1 / 1024 % 16 + 1) (by omega) (by omega)
    exact ⟨a5, by unfold szN; rw [a1], a2, by rw [a4]; exact g1 _ (I.sub p (by simp [hy])), fun _ => a3, fun h => absurd hy h⟩
  · rcases hp with h | ⟨h, h2⟩
    · have hg : p ∈ G := by rcases List.mem_append.1 h with h | h; exact absurd h hy; exact h
      rw [I.hg p hg]
      obtain ⟨a1, a2, a3, a4, a5, _⟩ := hdW_facts hd hx.1 (g := 0) (by omega) (by omega)
      exact ⟨a5, by unfold szN; rw [a1], a2, by rw [a4]; exact g1 _ (I.sub p h), fun h => absurd h hy, fun _ => a3⟩
    · have hw : s.W.getD p.2 0 = m.F p.1 := by
        have hi := X.in2 h
        rw [I.old p.2 (by omega) (by omega) (fun hD => by
          obtain ⟨q, k, d⟩ := I.dn _ hD
          have a1 := d.at'
          have a2 := d.lt
          rcases I.apart X d.pl (Or.inr ⟨h, h2⟩ : Placed l2 Y G p) with h1 | h1
          · rw [h1] at a1; omega
          · omega), h2]
      rw [hw]
      exact ⟨hd, rfl, rfl, (g2 _ h).1, fun h => absurd h hy, fun _ => (g2 _ h).2⟩
/-- What a field holds behind a collection. -/
theorem CI.fld (I : CI e m l1 l2 o0 Y G D s) (X : CX e m l1 l2 o0) (hA : AllD m.F D (Y ++ G)) (hO : AllD m.F D (l2.map fun f => (f, f))) {p : Nat × Nat} (hp : Placed l2 Y G p) {k : Nat} (hk : k < szN (m.F p.1)) :
    (m.F p.1 / 4 % 256 < 8 → s.W.getD (p.2 + 1 + k) 0 = m.F (p.1 + 1 + k)) ∧ (¬ m.F p.1 / 4 % 256 < 8 → s.W.getD (p.2 + 1 + k) 0 = mvI s.at (m.F (p.1 + 1 + k)) ∧ PtIn (s.has l2) (m.F (p.1 + 1 + k)) ∧ (m.m0 ≤ p.2 + 1 + k → youngB m.half (s.W.getD (p.2 + 1 + k) 0) = true → s.C.getD (cardN m.half m.card (p.2 + 1 + k)) false = true)) := by
  refine ⟨fun hr => ?_, fun hr => ?_⟩
  · have hD : ¬ D (p.2 + 1 + k) := fun hD => by
      obtain ⟨q, j, d⟩ := I.dn _ hD
      have a1 := d.at'
      have a2 := d.lt
      rcases I.apart X d.pl hp with h1 | h1
      · exact d.kd (by rw [h1]; exact hr)
      · omega
    rcases hp with h | ⟨h, h2⟩
    · exact I.raw p h k hk hD
    · have hi := X.in2 h
      rw [I.old _ (by omega) (by omega) hD, h2]
  · have hD : D (p.2 + 1 + k) := by
      rcases hp with h | ⟨h, h2⟩
      · exact hA p h hr k hk
      · have := hO (p.1, p.1) (List.mem_map.2 ⟨p.1, h, rfl⟩) hr k hk
        rw [h2]; exact this
    obtain ⟨q, j, d⟩ := I.dn _ hD
    obtain ⟨e1, e2⟩ := I.one X ⟨d.at', d.pl, d.lt, d.kd⟩ (⟨rfl, hp, hk, hr⟩ : IsField m l2 Y G (p.2 + 1 + k) p k)
    have hx := X.S.held (I.src_mem hp) hk hr
    have ho := d.ok
    have hi := d.is
    rw [e1, e2] at ho hi
    obtain ⟨n1, n2⟩ := I.now X hx ho
    exact ⟨by rw [hi, n1], n2, d.card⟩
theorem MD.Shape.rest' {m : MD} {vs : List Nat} (S : m.Shape vs) : (∀ x ∈ m.R, fieldB m.W.length (fun i => decide (i ∈ vs)) x = true) ∧ (∀ x ∈ m.K, fieldB m.W.length (fun i => decide (i ∈ vs)) x = true) ∧ idsB m.W.length (fun i => decide (i ∈ vs)) m.I = true := by
  have h := S.2.2.2
  unfold MD.restB at h
  rw [Bool.and_eq_true, Bool.and_eq_true, List.all_eq_true, List.all_eq_true] at h
  exact ⟨h.1, h.2.1, h.2.2⟩
theorem fieldB_ptr {nW : Nat} {hb : Nat → Bool} {x : Int} (h : ptrB nW hb x = true) : fieldB nW hb x = true := by
  unfold fieldB
  have := h
  unfold ptrB at this
  rw [Bool.and_eq_true] at this
  have a := of_decide_eq_true this.1
  rw [if_neg (by omega), if_neg (by omega), h, Bool.or_true]
theorem ptrB_pt {nW : Nat} {hb : Nat → Bool} {x : Int} (hn : nW ≤ 300000) (h : ptrB nW hb x = true) : 0 ≤ ptI x ∧ x = (ptI x + 1) * 4 := by
  unfold ptrB at h
  rw [Bool.and_eq_true, Bool.and_eq_true] at h
  have a := of_decide_eq_true h.1
  have b := of_decide_eq_true h.2.1
  unfold ptI
  rw [if_pos ⟨a.1, a.2, by omega⟩]
  omega
theorem ptrB_addr {nW : Nat} {us : List Nat} {t : Nat} (h1 : t ∈ us) (h2 : t < nW) : ptrB nW (fun i => decide (i ∈ us)) (((t : Int) + 1) * 4) = true := by
  unfold ptrB
  have e2 : (((t : Int) + 1) * 4 / 4 - 1).toNat = t := by omega
  rw [e2, decide_eq_true (by omega), decide_eq_true h2]
  show (true && (true && decide (t ∈ us))) = true
  rw [decide_eq_true h1]; rfl
/-- THE PLAIN SIDE OF A COLLECTION OF THE NURSERY. -/
theorem CI.coll (I : CI e m l1 l2 o0 Y G D s) (X : CX e m l1 l2 o0) (hA : AllD m.F D (Y ++ G)) (hO : AllD m.F D (l2.map fun f => (f, f))) (hR : ∀ x ∈ m.R, (nowP e.lo e.hi s.φ x).2 = true) :
    Coll e m (s.mem e m o0) l1 l2 (Y.map Prod.snd ++ (l2 ++ G.map Prod.snd)) (s.has l2) s.at := by
  obtain ⟨h, N⟩ := X.num
  obtain ⟨b1, b2, b3, b4⟩ := I.place X N
  have hF := X.S.1
  have hnum := hF.nums
  unfold numsOK at hnum
  have s1 := N.sep
  have s2 := N.m0
  have s3 := N.m1
  have s4 := N.half
  have s5 := N.nW
  have s6 := N.few
  have s7 := N.n1
  have s8 := N.le
  have hw := hF.w
  have P := MD.parts hF
  have pm1 := P.m1
  have pm0 := P.m0
  have pn0 := P.n0
  have pn1 := P.n1
  have hu0 := hF.u0
  have hu1 := hF.u1
  have hot := hF.o0
  have ho0 := X.o0
  have htk := I.taken X (l := []) I.nd (by simp)
  have ew : wordsP m.F [] = 0 := rfl
  have hφ := (CSOK.of I X).φ
  have hWl : s.W.length = m.W.length := by rw [I.len, s5]
  have hCl : s.C.length = m.C.length := by rw [I.clen, X.nC]
  obtain ⟨n, hn⟩ : ∃ n, n = s.mem e m o0 := ⟨_, rfl⟩
  have nF : ∀ i, n.F i = s.W.getD i 0 := fun i => by rw [hn]; rfl
  have nW : n.W = s.W := by rw [hn]; rfl
  have nWl : n.W.length = m.W.length := by rw [nW]; exact hWl
  have nh : n.half = m.half := by rw [hn]; rfl
  have nn0 : n.n0 = o0 := by rw [hn]; show ((1 - m.used) * m.half).toNat = o0; omega
  have nn1 : n.n1 = s.yt := by rw [hn]; show ((1 - m.used) * m.half + ((s.yt : Int) - (o0 : Int))).toNat = s.yt; omega
  have nm0 : n.m0 = m.m0 := by rw [hn]; rfl
  have nm1 : n.m1 = s.gt := by rw [hn]; show (2 * m.half + ((s.gt : Int) - (m.m0 : Int))).toNat = s.gt; omega
  obtain ⟨us, hus⟩ : ∃ us, us = Y.map Prod.snd ++ (l2 ++ G.map Prod.snd) := ⟨_, rfl⟩
  have hpl : ∀ p, Placed l2 Y G p → p.2 ∈ us ∧ p.2 < m.W.length := fun p hp => by
    refine ⟨?_, ?_⟩
    · rw [hus]
      rcases hp with hp | ⟨hp, h2⟩
      · rcases List.mem_append.1 hp with hp | hp
        · exact List.mem_append.2 (Or.inl (List.mem_map.2 ⟨p, hp, rfl⟩))
        · exact List.mem_append.2 (Or.inr (List.mem_append.2 (Or.inr (List.mem_map.2 ⟨p, hp, rfl⟩))))
      · rw [h2]; exact List.mem_append.2 (Or.inr (List.mem_append.2 (Or.inl hp)))
    · rcases hp.out I X with ⟨_, p1, p2⟩ | ⟨_, p1, p2⟩ | ⟨_, p0, p1, p2⟩ <;> omega
  have hS : ∀ f, s.has l2 f → s.at f ∈ us ∧ s.at f < m.W.length := fun f hf => hpl _ (I.has_pl X hf)
  have hvs : ∀ v ∈ l1 ++ l2, v < 300000 := fun v hv => by have := (X.S.fine v hv).2; omega
  have iso : Iso m.F n.F (s.has l2) s.at := by
    refine ⟨fun f g hf hg hfg => ?_, fun f hf => ?_, fun f hf => ?_, fun f hf => ?_, fun f hf k hk => ?_, fun f hf hk k hk1 => ?_⟩
    · rcases I.apart X (I.has_pl X hf) (I.has_pl X hg) with h1 | h1
      · exact (Prod.mk.inj h1).1
      · have h1 : s.at f + 1 + szN (m.F f) ≤ s.at g ∨ s.at g + 1 + szN (m.F g) ≤ s.at f := h1
        omega
    · have := (hS f hf).2; omega
    · rw [nF]; exact (I.hdr X (I.has_pl X hf)).2.2.1
    · rw [nF]; exact (I.hdr X (I.has_pl X hf)).2.1
    · obtain ⟨h1, h2⟩ := I.fld X hA hO (I.has_pl X hf) hk
      rw [nF]
      by_cases hr : m.F f / 4 % 256 < 8
      · rw [if_pos hr]; exact h1 hr
      · rw [if_neg hr]; exact (h2 hr).1
    · exact ((I.fld X hA hO (I.has_pl X hf) hk1).2 hk).2.1
  obtain ⟨rR, rK, rI⟩ := X.S.rest'
  have hnowR : ∀ x ∈ m.R, (nowP e.lo e.hi s.φ x).1 = mvI s.at x ∧ PtIn (s.has l2) x := fun x hx => I.now X (rR x hx) (hR x hx)
  have nR : n.R = m.R.map (mvI s.at) := by
    rw [hn]
    show m.R.map (fun x => (nowP e.lo e.hi s.φ x).1) = m.R.map (mvI s.at)
    exact List.map_congr_left fun x hx => (hnowR x hx).1
  have hfb : ∀ x, fieldB m.W.length (fun i => decide (i ∈ l1 ++ l2)) x = true → PtIn (s.has l2) x → fieldB n.W.length (fun i => decide (i ∈ us)) (mvI s.at x) = true := fun x h1 h2 => by rw [nWl]; exact fieldB_mv hS h1 h2 hvs
  have hnowB : ∀ x, fieldB m.W.length (fun i => decide (i ∈ l1 ++ l2)) x = true → fieldB n.W.length (fun i => decide (i ∈ us)) (nowP e.lo e.hi s.φ x).1 = true := fun x hx => by
    cases ho : (nowP e.lo e.hi s.φ x).2 with
    | true =>
      obtain ⟨h1, h2⟩ := I.now X hx ho
      rw [h1]; exact hfb x hx h2
    | false =>
      have : (nowP e.lo e.hi s.φ x).1 = 2 := by
        unfold nowP at ho ⊢
        split
        · rename_i hc
          rw [if_pos hc] at ho
          split
          · rfl
          · rename_i t ht; rw [ht] at ho; cases ho
        · rename_i hc; rw [if_neg hc] at ho; cases ho
      rw [this]
      unfold fieldB
      rw [if_neg (by decide), if_pos (by decide)]
      decide
  have fits : n.FitsM := by
    rw [hn]
    show Fits m.half m.old m.card s.W.length s.C.length (1 - m.used) ((s.yt : Int) - (o0 : Int)) ((s.gt : Int) - (m.m0 : Int))
    rw [hWl, hCl]
    exact ⟨hF.nums, hF.w, hF.c, by omega, by omega, by omega, by omega, by omega, by omega⟩
  have t2 : Tiled m.F m.m0 (l2.map (fun f => (f, f)) ++ G) s.gt := X.t2.append I.tG
  have pl2 : ∀ p ∈ l2.map (fun f => (f, f)) ++ G, Placed l2 Y G p := fun p hp => by
    rcases List.mem_append.1 hp with hp | hp
    · obtain ⟨f, hf, rfl⟩ := List.mem_map.1 hp; exact Or.inr ⟨hf, rfl⟩
    · exact Or.inl (List.mem_append.2 (Or.inr hp))
  have plY : ∀ p ∈ Y, Placed l2 Y G p := fun p hp => Or.inl (List.mem_append.2 (Or.inl hp))
  have nY2 : ∀ p ∈ l2.map (fun f => (f, f)) ++ G, p ∉ Y := fun p hp hy => by
    have a1 := I.tY.mem p hy
    have a2 := t2.mem p hp
    omega
  have e2 : (l2.map (fun f => (f, f)) ++ G).map Prod.snd = l2 ++ G.map Prod.snd := by
    rw [List.map_append, List.map_map]
    congr 1
    exact List.map_id' _
  have walkY : ∀ (T : Nat → Bool), (∀ p ∈ Y, T p.2 = true) → walkP n.F T (n.n1 - n.n0) n.n0 n.n1 = some (Y.map Prod.snd) := fun T hT => by
    rw [nn0, nn1]
    refine walk_of_tiled I.tY (fun p hp => ?_) (Nat.le_refl _)
    have := I.hdr X (plY p hp)
    rw [nF]
    exact ⟨this.1, this.2.1, hT p hp⟩
  have walkO : ∀ (T : Nat → Bool), (∀ p ∈ l2.map (fun f => (f, f)) ++ G, T p.2 = true) → walkP n.F T (n.m1 - n.m0) n.m0 n.m1 = some (l2 ++ G.map Prod.snd) := fun T hT => by
    rw [nm0, nm1, ← e2]
    refine walk_of_tiled t2 (fun p hp => ?_) (Nat.le_refl _)
    have := I.hdr X (pl2 p hp)
    rw [nF]
    exact ⟨this.1, this.2.1, hT p hp⟩
  have g1Y : ∀ p ∈ Y, G1 n.F n.half p.2 = true := fun p hp => by
    have a := I.hdr X (plY p hp)
    have a1 := I.tY.mem p hp
    unfold G1
    rw [nF, nh, decide_eq_true a.2.2.2.1, decide_eq_true (show ((p.2 : Nat) : Int) < 2 * m.half by omega)]; rfl
  have g1O : ∀ p ∈ l2.map (fun f => (f, f)) ++ G, G1 n.F n.half p.2 = true := fun p hp => by
    have a := I.hdr X (pl2 p hp)
    unfold G1
    rw [nF, nh, decide_eq_true a.2.2.2.1, decide_eq_true (a.2.2.2.2.2 (nY2 p hp)), Bool.or_true]; rfl
  have g2 : ∀ p, Placed l2 Y G p → G2 n.F n.W.length (fun i => decide (i ∈ us)) p.2 = true := fun p hp => by
    have a := I.hdr X hp
    unfold G2
    rw [nF, a.2.2.1]
    by_cases hr : m.F p.1 / 4 % 256 < 8
    · rw [decide_eq_true hr, Bool.true_or]
    · rw [decide_eq_false hr, Bool.false_or, List.all_eq_true]
      intro x hx
      unfold fieldsP at hx
      obtain ⟨k, hk, rfl⟩ := List.mem_map.1 hx
      have hk := List.mem_range.1 hk
      rw [nF, a.2.1] at hk
      obtain ⟨c1, c2, _⟩ := (I.fld X hA hO hp hk).2 hr
      rw [nF, c1]
      exact hfb _ (X.S.held (I.src_mem hp) hk hr) c2
  have g3 : ∀ p ∈ l2.map (fun f => (f, f)) ++ G, G3 n.F n.Cf n.half n.card p.2 = true := fun p hp => by
    have a := I.hdr X (pl2 p hp)
    have a1 := t2.mem p hp
    unfold G3
    rw [nF, a.2.2.1]
    by_cases hr : m.F p.1 / 4 % 256 < 8
    · rw [decide_eq_true hr, Bool.true_or]
    · rw [decide_eq_false hr, Bool.false_or, List.all_eq_true]
      intro k hk
      have hk := List.mem_range.1 hk
      rw [a.2.1] at hk
      obtain ⟨_, _, c3⟩ := (I.fld X hA hO (pl2 p hp) hk).2 hr
      have c3 := c3 (by omega)
      unfold cardB
      have ec : n.Cf (cardN n.half n.card (p.2 + 1 + k)) = s.C.getD (cardN m.half m.card (p.2 + 1 + k)) false := by rw [hn]; rfl
      rw [nF, ec, nh]
      cases hy : youngB m.half (s.W.getD (p.2 + 1 + k) 0) with
      | false => rfl
      | true => rw [c3 hy]; rfl
  have nI : n.I = idsP (nowP e.lo e.hi s.φ) m.I := by rw [hn]; rfl
  obtain ⟨i1, i2⟩ := idsB_iff.1 rI
  have hidx : ∀ y ∈ n.I, ∃ x ∈ m.I, (nowP e.lo e.hi s.φ x.1).2 = true ∧ y = ((nowP e.lo e.hi s.φ x.1).1, x.2) := fun y hy => by
    rw [nI] at hy
    unfold idsP at hy
    obtain ⟨x, hx, hy⟩ := List.mem_filterMap.1 hy
    split at hy
    · rename_i ho
      cases hy
      exact ⟨x, hx, ho, rfl⟩
    · cases hy
  have hmvx : ∀ x ∈ m.I, (nowP e.lo e.hi s.φ x.1).2 = true → 0 ≤ ptI x.1 ∧ x.1 = (ptI x.1 + 1) * 4 ∧ s.has l2 (ptI x.1).toNat ∧ (nowP e.lo e.hi s.φ x.1).1 = (((s.at (ptI x.1).toNat : Nat) : Int) + 1) * 4 := fun x hx ho => by
    obtain ⟨q1, q2⟩ := ptrB_pt (by omega) (i1 x hx).1
    obtain ⟨r1, r2⟩ := I.now X (fieldB_ptr (i1 x hx).1) ho
    refine ⟨q1, q2, r2 q1, ?_⟩
    rw [r1]; unfold mvI; rw [if_pos q1]
  have ids : idsB n.W.length (fun i => decide (i ∈ us)) n.I = true := by
    refine idsB_iff.2 ⟨fun y hy => ?_, ?_⟩
    · obtain ⟨x, hx, ho, rfl⟩ := hidx y hy
      obtain ⟨q1, q2, q3, q4⟩ := hmvx x hx ho
      refine ⟨?_, (i1 x hx).2⟩
      show ptrB n.W.length _ (nowP e.lo e.hi s.φ x.1).1 = true
      rw [q4, nWl]
      exact ptrB_addr (hS _ q3).1 (hS _ q3).2
    · rw [nI]
      unfold idsP
      refine List.pairwise_filterMap.2 ?_
      refine List.Pairwise.imp_of_mem ?_ i2
      intro x y hx hy hxy a ha b hb
      split at ha
      · rename_i o1
        split at hb
        · rename_i o2
          cases ha
          cases hb
          obtain ⟨q1, q2, q3, q4⟩ := hmvx x hx o1
          obtain ⟨p1, p2, p3, p4⟩ := hmvx y hy o2
          refine ⟨fun h1 => hxy.1 ?_, hxy.2⟩
          have h1 : (nowP e.lo e.hi s.φ x.1).1 = (nowP e.lo e.hi s.φ y.1).1 := h1
          rw [q4, p4] at h1
          have := iso.inj _ _ q3 p3 (by omega)
          omega
        · cases hb
      · cases ha
  have hU : ∀ x : Int, 0 ≤ x ∧ x < 18446744073709551616 → 0 ≤ (nowP e.lo e.hi s.φ x).1 ∧ (nowP e.lo e.hi s.φ x).1 < 18446744073709551616 := fun x hx => nowP_range hφ hx.1 hx.2
  have h64 : MD64 n := by
    refine ⟨by rw [nW]; exact I.u64, ?_, ?_, fun y hy => ?_⟩
    · rw [hn]; intro y hy; obtain ⟨x, hx, rfl⟩ := List.mem_map.1 hy; exact hU x (X.h64.r x hx)
    · rw [hn]; intro y hy; obtain ⟨x, hx, rfl⟩ := List.mem_map.1 hy; exact hU x (X.h64.k x hx)
    · obtain ⟨x, hx, ho, rfl⟩ := hidx y hy
      have := X.h64.i x hx
      exact ⟨hU x.1 this.1, this.2⟩
  have shape : n.Shape us := by
    refine ⟨fits, ?_, ?_, ?_⟩
    · unfold MD.objs
      rw [walkY _ g1Y, walkO _ g1O, hus]
    · unfold MD.holdB
      rw [walkY _ (fun p hp => g2 p (plY p hp)), walkO _ (fun p hp => g2 p (pl2 p hp))]; rfl
    · unfold MD.restB
      rw [Bool.and_eq_true, Bool.and_eq_true, List.all_eq_true, List.all_eq_true]
      refine ⟨fun y hy => ?_, fun y hy => ?_, ids⟩
      · rw [nR] at hy
        obtain ⟨x, hx, rfl⟩ := List.mem_map.1 hy
        exact hfb x (rR x hx) (hnowR x hx).2
      · rw [hn] at hy
        obtain ⟨x, hx, rfl⟩ := List.mem_map.1 hy
        exact hnowB x (rK x hx)
  rw [← hn, ← hus]
  have hyoung : ∀ f, s.has l2 f → f ∈ l1 → ((f, s.at f) ∈ Y ∧ m.F f / 1024 % 16 < e.tn ∧ s.at f < 2 * h) ∨ ((f, s.at f) ∈ G ∧ e.tn ≤ m.F f / 1024 % 16 ∧ 2 * h ≤ s.at f) := fun f hf h1 => by
    rcases I.has_pl X hf with hp | ⟨hp, _⟩
    · rcases List.mem_append.1 hp with hp | hp
      · have a := I.tY.mem _ hp
        have a1 : o0 ≤ s.at f ∧ s.at f + 1 + szN (m.F f) ≤ s.yt := a
        exact Or.inl ⟨hp, I.ay _ hp, by omega⟩
      · have a := I.tG.mem _ hp
        have a1 : m.m1 ≤ s.at f ∧ s.at f + 1 + szN (m.F f) ≤ s.gt := a
        exact Or.inr ⟨hp, I.ag _ hp, by omega⟩
    · exact (X.apart h1 hp).elim
  refine ⟨shape, h64, ?_, iso, nR, fun x hx => (hnowR x hx).2, fun f hf => ⟨Or.inl hf, ?_⟩, fun f hf => ⟨?_, (hS f hf).1⟩, fun f hf h1 => ?_, fun t ht => ?_, nh, by rw [hn]; rfl, by rw [hn]; rfl, by rw [hn]; rfl, ?_, ?_, fun hno => ?_, by rw [hn]; exact List.length_map _, fun i hi => ?_, ⟨fun x => (nowP e.lo e.hi s.φ x.1).2, ?_, fun x hx => ?_⟩⟩
  · unfold MD.cardsB
    rw [walkO _ g3]; rfl
  · unfold CS.at; rw [I.old_none X hf]; rfl
  · exact I.src_mem (I.has_pl X hf)
  · rcases hyoung f hf h1 with ⟨a1, a2, a3⟩ | ⟨a1, a2, a3⟩
    · refine ⟨⟨fun _ => a2, fun _ => by omega⟩, fun _ => ?_⟩
      rw [nF]
      exact (I.hdr X (I.has_pl X hf)).2.2.2.2.1 a1
    · exact ⟨⟨fun h5 => by omega, fun h5 => by omega⟩, fun h5 => by omega⟩
  · rw [hus] at ht
    have : ∃ p, Placed l2 Y G p ∧ p.2 = t := by
      rcases List.mem_append.1 ht with ht | ht
      · obtain ⟨p, hp, rfl⟩ := List.mem_map.1 ht; exact ⟨p, plY p hp, rfl⟩
      · rcases List.mem_append.1 ht with ht | ht
        · exact ⟨(t, t), Or.inr ⟨ht, rfl⟩, rfl⟩
        · obtain ⟨p, hp, rfl⟩ := List.mem_map.1 ht; exact ⟨p, Or.inl (by simp [hp]), rfl⟩
    obtain ⟨p, hp, rfl⟩ := this
    obtain ⟨c1, c2⟩ := I.pl_has X hp
    exact ⟨p.1, c1, c2⟩
  · rw [hn]; show (s.yt : Int) - (o0 : Int) ≤ m.top; omega
  · rw [hn]; show m.oldTop ≤ (s.gt : Int) - (m.m0 : Int); omega
  · have hY : Y = [] := by
      cases hy : Y with
      | nil => rfl
      | cons p L =>
        have a1 := I.ay p (by rw [hy]; simp)
        have a2 := hno p.1 (I.sub p (by rw [hy]; simp))
        omega
    have ht := I.tY
    rw [hY] at ht
    have ht : o0 = s.yt := ht
    rw [hn]; show (s.yt : Int) - (o0 : Int) = 0; omega
  · obtain ⟨x, hx⟩ : ∃ x, m.K[i]? = some x := ⟨_, List.getElem?_eq_getElem hi⟩
    have hg : m.K.getD i 0 = x := by rw [List.getD_eq_getElem?_getD, hx]; rfl
    have hg2 : n.K.getD i 0 = (nowP e.lo e.hi s.φ x).1 := by
      rw [hn]
      show (m.K.map _).getD i 0 = _
      rw [List.getD_eq_getElem?_getD, List.getElem?_map, hx]; rfl
    have hb := rK x (List.mem_of_getElem? hx)
    rw [hg, hg2]
    cases ho : (nowP e.lo e.hi s.φ x).2 with
    | true =>
      obtain ⟨h1, h2⟩ := I.now X hb ho
      exact Or.inl ⟨h2, h1⟩
    | false =>
      obtain ⟨h1, h2⟩ := X.needs hb ho
      have h3 : 0 ≤ ptI x ∧ (nowP e.lo e.hi s.φ x).1 = 2 := by
        unfold nowP at ho ⊢
        split at ho
        · rename_i hc
          rw [if_pos hc]
          refine ⟨hc.1, ?_⟩
          rw [h2]
        · cases ho
      refine Or.inr ⟨h3.1, fun hS' => ?_, h3.2⟩
      rcases hS' with h | ⟨t, h⟩
      · exact X.apart h1 h
      · rw [h2] at h; cases h
  · rw [nI]
    unfold idsP
    have hgen : ∀ l : List (Int × Int), (∀ x ∈ l, x ∈ m.I) → (l.filterMap fun x => if (nowP e.lo e.hi s.φ x.1).2 = true then some ((nowP e.lo e.hi s.φ x.1).1, x.2) else none) = (l.filter fun x => (nowP e.lo e.hi s.φ x.1).2).map (fun x => (mvI s.at x.1, x.2)) := fun l => by
      induction l with
      | nil => intro _; rfl
      | cons x l ih =>
        intro hl
        have ih := ih (fun y hy => hl y (by simp [hy]))
        rw [List.filterMap_cons, List.filter_cons]
        by_cases ho : (nowP e.lo e.hi s.φ x.1).2 = true
        · obtain ⟨q1, q2, q3, q4⟩ := hmvx x (hl x (by simp)) ho
          have q5 : mvI s.at x.1 = (((s.at (ptI x.1).toNat : Nat) : Int) + 1) * 4 := by unfold mvI; rw [if_pos q1]
          rw [if_pos ho, if_pos ho, List.map_cons, q5, ← q4, ih]
        · rw [if_neg ho, if_neg ho]; exact ih
    exact hgen m.I (fun _ h => h)
  · refine ⟨fun ho => (hmvx x hx ho).2.2.1, fun hS' => ?_⟩
    cases ho : (nowP e.lo e.hi s.φ x.1).2 with
    | true => exact ho
    | false =>
      obtain ⟨h1, h2⟩ := X.needs (fieldB_ptr (i1 x hx).1) ho
      rcases hS' with h | ⟨t, h⟩
      · exact (X.apart h1 h).elim
      · rw [h2] at h; cases h
end Go.Proofs.YtnenggkgfhgcnaaGreatDoor

/- The nursery collected, plainly: how it begins; roots; fields of marked cards. -/
namespace Go.Proofs.YtnenggkgfhgcnaaGreatDoor
open Go.RowKit

variable {e : CE} {m : MD} {l1 l2 : List Nat} {o0 : Nat} {Y G : List (Nat × Nat)} {D : Nat → Prop} {s : CS}
/-- How a copier stands ahead of all. -/
def CS.start (m : MD) (o0 : Nat) : CS := ⟨m.W, List.replicate m.C.length false, fun _ => none, o0, o0, m.m1, m.m1⟩
/-- Fields of the old space that need not follow: those of cards that are not marked. -/
def D0 (m : MD) (l2 : List Nat) (y : Nat) : Prop := ∃ f ∈ l2, ∃ k, y = f + 1 + k ∧ k < szN (m.F f) ∧ ¬ m.F f / 4 % 256 < 8 ∧ m.Cf (cardN m.half m.card y) = false
theorem CX.start (X : CX e m l1 l2 o0) : CI e m l1 l2 o0 [] [] (D0 m l2) (CS.start m o0) := by
  obtain ⟨h, N⟩ := X.num
  refine ⟨rfl, rfl, by simp, by simp, by simp, by simp, fun f t => ⟨fun h => (by cases h), fun h => (by simp at h)⟩, by rw [X.nW]; rfl, by rw [X.nC]; exact List.length_replicate, X.h64.w, by simp, by simp, by simp, fun _ _ _ => rfl, fun _ _ _ _ => rfl, fun y hy => ?_⟩
  obtain ⟨f, hf, k, rfl, hk, hr, hc⟩ := hy
  have hin := X.in2 hf
  have hny : youngB m.half (m.F (f + 1 + k)) = false := by
    cases hy : youngB m.half (m.F (f + 1 + k)) with
    | false => rfl
    | true =>
      have := X.S.carded X.cards (List.mem_append.2 (Or.inr hf)) hk hr (by have := N.m0; have := N.half; omega) hy
      rw [this] at hc; cases hc
  have hno : nowP e.lo e.hi (CS.start m o0).φ (m.F (f + 1 + k)) = (m.F (f + 1 + k), true) := by
    unfold nowP
    rw [if_neg]
    rintro ⟨h1, h2, h3⟩
    have hp : m.F (f + 1 + k) % 4 = 0 ∧ 4 ≤ m.F (f + 1 + k) ∧ ptI (m.F (f + 1 + k)) = m.F (f + 1 + k) / 4 - 1 := by
      unfold ptI at h1 ⊢
      split at h1
      · rename_i c; rw [if_pos c]; exact ⟨c.1, c.2.1, rfl⟩
      · omega
    have : youngB m.half (m.F (f + 1 + k)) = true := by
      unfold youngB
      refine decide_eq_true ⟨hp.1, hp.2.1, ?_⟩
      have := N.hi
      have := N.sep
      have := N.half
      omega
    rw [this] at hny; cases hny
  refine ⟨(f, f), k, rfl, Or.inr ⟨hf, rfl⟩, hk, hr, by rw [hno], by rw [hno]; rfl, fun _ h2 => ?_⟩
  have h2 : youngB m.half (m.F (f + 1 + k)) = true := h2
  rw [h2] at hny; cases hny
/-- Words of a row follow. -/
theorem CI.followN (I : CI e m l1 l2 o0 Y G D s) (X : CX e m l1 l2 o0) {R : List Int} (hR : ∀ x ∈ R, fieldB m.W.length (fun i => decide (i ∈ l1 ++ l2)) x = true) : ∀ i, i ≤ R.length →
    ∃ Y' G', CI e m l1 l2 o0 (Y ++ Y') (G ++ G') D (s.followN e R i) ∧ Same s (s.followN e R i) ∧ (∀ j, j < i → (nowP e.lo e.hi (s.followN e R i).φ (R.getD j 0)).2 = true) ∧ ∀ j, j < i → (s.rowN e R i).getD j 0 = (nowP e.lo e.hi (s.followN e R i).φ (R.getD j 0)).1
  | 0, _ => ⟨[], [], by rw [List.append_nil, List.append_nil]; exact I, Same.refl s, fun j hj => by omega, fun j hj => by omega⟩
  | i + 1, hi => by
    obtain ⟨Y1, G1, I1, S1, h1, h2⟩ := I.followN X hR i (by omega)
    have hx : fieldB m.W.length (fun i => decide (i ∈ l1 ++ l2)) (R.getD i 0) = true := hR _ (by rw [List.getD_eq_getElem?_getD, List.getElem?_eq_getElem (by omega)]; exact List.getElem_mem _)
    obtain ⟨_, Y2, G2, I2, S2, _, ho, _⟩ := I1.follow X hx
    rw [List.append_assoc, List.append_assoc] at I2
    have hmono : ∀ j, j < i → nowP e.lo e.hi (s.followN e R (i + 1)).φ (R.getD j 0) = nowP e.lo e.hi (s.followN e R i).φ (R.getD j 0) := fun j hj => nowP_mono S2.φ (h1 j hj)
    refine ⟨Y1 ++ Y2, G1 ++ G2, I2, S1.trans S2, fun j hj => ?_, fun j hj => ?_⟩
    · by_cases hji : j < i
      · rw [hmono j hji]; exact h1 j hji
      · obtain rfl : j = i := by omega
        exact ho
    · have hl := rowN_len e s R i
      show ((s.rowN e R i).set i ((s.followN e R i).word e (R.getD i 0))).getD j 0 = _
      rw [getD_set _ _ _ _ (by omega)]
      by_cases hji : j < i
      · rw [if_neg (by omega), hmono j hji]; exact h2 j hji
      · obtain rfl : j = i := by omega
        rw [if_pos rfl]; rfl
theorem CI.followOK (I : CI e m l1 l2 o0 Y G D s) (X : CX e m l1 l2 o0) {R : List Int} (hR : ∀ x ∈ R, fieldB m.W.length (fun i => decide (i ∈ l1 ++ l2)) x = true) (i : Nat) (hi : i < R.length) :
    CSOK e (s.followN e R i) ∧ ((nowP e.lo e.hi (s.followN e R i).φ (R.getD i 0)).2 = false → CanCopy e (s.followN e R i) (ptI (R.getD i 0)).toNat ∧ ∀ f t, ((s.followN e R i).copy e (ptI (R.getD i 0)).toNat).φ f = some t → t ≤ 300000) := by
  obtain ⟨Y1, G1, I1, S1, h1, h2⟩ := I.followN X hR i (by omega)
  have hx : fieldB m.W.length (fun i => decide (i ∈ l1 ++ l2)) (R.getD i 0) = true := hR _ (by rw [List.getD_eq_getElem?_getD, List.getElem?_eq_getElem (by omega)]; exact List.getElem_mem _)
  exact ⟨CSOK.of I1 X, (I1.follow X hx).1⟩
theorem rowN_all {R : List Int} {φ : Nat → Option Nat} (h : ∀ j, j < R.length → (s.rowN e R R.length).getD j 0 = (nowP e.lo e.hi φ (R.getD j 0)).1) : s.rowN e R R.length = R.map (fun x => (nowP e.lo e.hi φ x).1) := by
  refine List.ext_getElem? fun j => ?_
  have hl := rowN_len e s R R.length
  by_cases hj : j < R.length
  · have := h j hj
    rw [List.getD_eq_getElem?_getD, List.getElem?_eq_getElem (by omega), List.getD_eq_getElem?_getD, List.getElem?_eq_getElem hj] at this
    rw [List.getElem?_eq_getElem (by omega), List.getElem?_map, List.getElem?_eq_getElem hj]
    exact congrArg some this
  · rw [List.getElem?_eq_none (by omega), List.getElem?_eq_none (by rw [List.length_map]; omega)]
/-- Behind the first fields of a list that follow. -/
def CS.fieldL (e : CE) (s : CS) (l : List Nat) : Nat → CS
  | 0 => s
  | i + 1 => (s.fieldL e l i).field e (l.getD i 0)
/-- Fields of the old space follow, whose cards were marked. -/
theorem CI.fieldL (I : CI e m l1 l2 o0 Y G D s) (X : CX e m l1 l2 o0) {l : List Nat} (hn : l.Nodup) (hl : ∀ y ∈ l, ¬ D y ∧ ∃ f ∈ l2, ∃ k, y = f + 1 + k ∧ k < szN (m.F f) ∧ ¬ m.F f / 4 % 256 < 8) : ∀ i, i ≤ l.length →
    ∃ Y' G', CI e m l1 l2 o0 (Y ++ Y') (G ++ G') (fun z => D z ∨ z ∈ l.take i) (s.fieldL e l i) ∧ Same s (s.fieldL e l i) ∧ (i < l.length → FieldOK e (s.fieldL e l i) (l.getD i 0))
  | 0, _ => by
    have e1 : (fun z => D z ∨ z ∈ l.take 0) = D := by
      funext z; apply propext; simp
    refine ⟨[], [], by rw [List.append_nil, List.append_nil, e1]; exact I, Same.refl s, fun h0 => ?_⟩
    have hy : l.getD 0 0 ∈ l := by rw [List.getD_eq_getElem?_getD, List.getElem?_eq_getElem h0]; exact List.getElem_mem _
    obtain ⟨hD, f, hf, k, hk1, hk2, hk3⟩ := hl _ hy
    exact (I.field X (p := (f, f)) ⟨hk1, Or.inr ⟨hf, rfl⟩, hk2, hk3⟩ hD).1
  | i + 1, hi => by
    obtain ⟨Y1, G1, I1, S1, _⟩ := I.fieldL X hn hl i (by omega)
    have hg : l[i]? = some (l.getD i 0) := by rw [List.getD_eq_getElem?_getD, List.getElem?_eq_getElem (by omega)]; rfl
    have hy : l.getD i 0 ∈ l := List.mem_of_getElem? hg
    have hnt : l.getD i 0 ∉ l.take i := fun h => by
      obtain ⟨j, hj⟩ := List.mem_iff_getElem?.1 h
      rw [List.getElem?_take] at hj
      split at hj
      · rename_i hji
        have := (List.getElem?_inj (by omega) hn).1 (hj.trans hg.symm)
        omega
      · cases hj
    obtain ⟨hD, f, hf, k, hk1, hk2, hk3⟩ := hl _ hy
    obtain ⟨_, Y2, G2, I2, S2, _⟩ := I1.field X (p := (f, f)) ⟨hk1, Or.inr ⟨hf, rfl⟩, hk2, hk3⟩ (by
      rintro (h | h)
      · exact hD h
      · exact hnt h)
    have e1 : (fun z => (D z ∨ z ∈ l.take i) ∨ z = l.getD i 0) = (fun z => D z ∨ z ∈ l.take (i + 1)) := by
      funext z; apply propext
      rw [List.take_add_one, hg]
      simp only [List.mem_append, Option.toList_some, List.mem_singleton, or_assoc]
    rw [e1, List.append_assoc, List.append_assoc] at I2
    refine ⟨Y1 ++ Y2, G1 ++ G2, I2, S1.trans S2, fun h0 => ?_⟩
    have hg' : l[i + 1]? = some (l.getD (i + 1) 0) := by rw [List.getD_eq_getElem?_getD, List.getElem?_eq_getElem (by omega)]; rfl
    have hnt' : l.getD (i + 1) 0 ∉ l.take (i + 1) := fun h => by
      obtain ⟨j, hj⟩ := List.mem_iff_getElem?.1 h
      rw [List.getElem?_take] at hj
      split at hj
      · rename_i hji
        have := (List.getElem?_inj (by omega) hn).1 (hj.trans hg'.symm)
        omega
      · cases hj
    obtain ⟨hD', f', hf', k', h1', h2', h3'⟩ := hl _ (List.mem_of_getElem? hg')
    exact (I2.field X (p := (f', f')) ⟨h1', Or.inr ⟨hf', rfl⟩, h2', h3'⟩ (by
      rintro (h | h)
      · exact hD' h
      · exact hnt' h)).1
/-- Fields of an object whose cards are marked. -/
def mkF (m : MD) (f : Nat) : List Nat := if m.F f / 4 % 256 < 8 then [] else ((List.range (szN (m.F f))).map fun k => f + 1 + k).filter fun y => m.Cf (cardN m.half m.card y)
/-- Fields of the old space whose cards are marked. -/
def markedP (m : MD) (l2 : List Nat) : List Nat := l2.flatMap (mkF m)
theorem mem_mkF {m : MD} {f y : Nat} : y ∈ mkF m f ↔ ∃ k, y = f + 1 + k ∧ k < szN (m.F f) ∧ ¬ m.F f / 4 % 256 < 8 ∧ m.Cf (cardN m.half m.card y) = true := by
  unfold mkF
  by_cases h : m.F f / 4 % 256 < 8
  · rw [if_pos h]
    exact ⟨fun h => (by simp at h), fun ⟨k, _, _, h1, _⟩ => absurd h h1⟩
  · rw [if_neg h]
    constructor
    · intro hy
      obtain ⟨h1, h2⟩ := List.mem_filter.1 hy
      obtain ⟨k, hk, rfl⟩ := List.mem_map.1 h1
      exact ⟨k, rfl, List.mem_range.1 hk, h, h2⟩
    · rintro ⟨k, rfl, hk, _, hc⟩
      exact List.mem_filter.2 ⟨List.mem_map.2 ⟨k, List.mem_range.2 hk, rfl⟩, hc⟩
theorem Tiled.pw {F : Nat → Int} : ∀ {L : List (Nat × Nat)} {a b : Nat}, Tiled F a L b → L.Pairwise (fun p q => p.2 + 1 + szN (F p.1) ≤ q.2)
  | [], _, _, _ => List.Pairwise.nil
  | p :: L, a, b, h => by
    refine List.Pairwise.cons (fun q hq => ?_) (Tiled.pw h.2)
    have := Tiled.mem h.2 q hq
    have := h.1
    omega
theorem CX.marked (X : CX e m l1 l2 o0) : (markedP m l2).Nodup ∧ (∀ y ∈ markedP m l2, ¬ D0 m l2 y ∧ ∃ f ∈ l2, ∃ k, y = f + 1 + k ∧ k < szN (m.F f) ∧ ¬ m.F f / 4 % 256 < 8) ∧ AllD m.F (fun z => D0 m l2 z ∨ z ∈ markedP m l2) (l2.map fun f => (f, f)) := by
  refine ⟨?_, fun y hy => ?_, fun p hp hr k hk => ?_⟩
  · unfold markedP
    have hp := X.t2.pw
    rw [List.pairwise_map] at hp
    refine List.pairwise_flatMap.2 ⟨fun f _ => ?_, hp.imp fun {a b} hab x hx y hy => ?_⟩
    · unfold mkF
      split
      · exact List.Pairwise.nil
      · refine List.Pairwise.filter _ (List.pairwise_map.2 ?_)
        exact (List.nodup_range (n := szN (m.F f))).imp (fun h e => h (by omega))
    · obtain ⟨k, rfl, hk, _⟩ := mem_mkF.1 hx
      obtain ⟨j, rfl, _⟩ := mem_mkF.1 hy
      have hab : a + 1 + szN (m.F a) ≤ b := hab
      omega
  · obtain ⟨f, hf, hy⟩ := List.mem_flatMap.1 hy
    obtain ⟨k, h1, h2, h3, h4⟩ := mem_mkF.1 hy
    refine ⟨?_, f, hf, k, h1, h2, h3⟩
    rintro ⟨_, _, _, _, _, _, h5⟩
    rw [h4] at h5; cases h5
  · obtain ⟨f, hf, rfl⟩ := List.mem_map.1 hp
    show D0 m l2 (f + 1 + k) ∨ f + 1 + k ∈ markedP m l2
    cases hc : m.Cf (cardN m.half m.card (f + 1 + k)) with
    | false => exact Or.inl ⟨f, hf, k, rfl, hk, hr, hc⟩
    | true => exact Or.inr (List.mem_flatMap.2 ⟨f, hf, mem_mkF.2 ⟨k, rfl, hk, hr, hc⟩⟩)
/-- Behind roots and marked fields copies are gone through. -/
theorem CI.scan (I : CI e m l1 l2 o0 Y G D s) (X : CX e m l1 l2 o0) (hD : ∀ z, D z → m.m0 ≤ z ∧ z < m.m1) (hA : AllD m.F D (l2.map fun f => (f, f))) (hy : s.yd = o0) (hg : s.gd = m.m1) : SI e m l1 l2 o0 s := by
  obtain ⟨h, N⟩ := X.num
  obtain ⟨b1, b2, b3, b4⟩ := I.place X N
  have s1 := N.sep
  have s2 := N.m0
  have s3 := N.m1
  refine ⟨[], Y, [], G, D, I, hy.symm, hg.symm, fun p hp => by simp at hp, fun p hp k hk hd => ?_, hA⟩
  have := hD _ hd
  rcases List.mem_append.1 hp with hp | hp
  · have := I.tY.mem p hp; omega
  · have := I.tG.mem p hp; omega
theorem CX.dOld (X : CX e m l1 l2 o0) : ∀ z, D0 m l2 z ∨ z ∈ markedP m l2 → m.m0 ≤ z ∧ z < m.m1 := fun z hz => by
  have : ∃ f ∈ l2, ∃ k, z = f + 1 + k ∧ k < szN (m.F f) := by
    rcases hz with ⟨f, hf, k, h1, h2, _⟩ | hz
    · exact ⟨f, hf, k, h1, h2⟩
    · obtain ⟨f, hf, hy⟩ := List.mem_flatMap.1 hz
      obtain ⟨k, h1, h2, _⟩ := mem_mkF.1 hy
      exact ⟨f, hf, k, h1, h2⟩
  obtain ⟨f, hf, k, rfl, hk⟩ := this
  have := X.in2 hf
  omega
end Go.Proofs.YtnenggkgfhgcnaaGreatDoor
