/- The document's memory: what can be come to (come), by a contract. -/
import Derived.Test.YtnenggkgfhgcnaaGreatDoorJnS
import Derived.Test.YtnenggkgfhgcnaaGreatDoorJnT
namespace Go.Proofs.YtnenggkgfhgcnaaGreatDoor
open Go.RowKit

/-- What is come to by one word more. -/
def comeP (out : List Nat) (x : Int) : List Nat := if 0 ≤ ptI x ∧ objI out (ptI x) < 0 then out ++ [(ptI x).toNat] else out
theorem objI_neg {vs : List Nat} {x : Int} (h : ¬ 0 ≤ objI vs x) : objI vs x = -1 := by
  unfold objI at *
  split at h <;> simp_all
theorem objI_some {vs : List Nat} {x : Int} (h : 0 ≤ objI vs x) : ∃ k f : Nat, objI vs x = (k : Int) ∧ vs[k]? = some f ∧ (f : Int) = x ∧ k < vs.length := by
  unfold objI at *
  cases e : vs.findIdx? (fun v : Nat => (v : Int) == x) with
  | none => rw [e] at h; simp at h
  | some i =>
    obtain ⟨hl, h1, _⟩ := List.findIdx?_eq_some_iff_getElem.1 e
    exact ⟨i, vs[i], rfl, List.getElem?_eq_getElem hl, by simpa using h1, hl⟩
theorem objI_mem {vs : List Nat} {f : Nat} : 0 ≤ objI vs (f : Int) ↔ f ∈ vs := by
  constructor
  · intro h
    obtain ⟨k, g, _, h1, h2, _⟩ := objI_some h
    obtain rfl : g = f := by omega
    exact List.mem_of_getElem? h1
  · intro h
    rcases Int.lt_or_le (objI vs (f : Int)) 0 with hl | hl
    · exfalso
      unfold objI at hl
      cases e : vs.findIdx? (fun v : Nat => (v : Int) == (f : Int)) with
      | none =>
        rw [List.findIdx?_eq_none_iff] at e
        have := e f h
        simp at this
      | some i => rw [e] at hl; simp at hl; omega
    · exact hl
set_option maxHeartbeats 8000000 in
set_option maxRecDepth 100000 in
theorem come_any (F : Nat → Int) (vs out : List Nat) (ao oo : Option Addr) (ca oc : Nat) (hn : vs.length ≤ 300000) (hon : out.length ≤ 300000) (x : Int) (x0 : 0 ≤ x) (x1 : x < 18446744073709551616) (hp : 0 ≤ ptI x → 0 ≤ objI vs (ptI x)) (w1 w : World) (hL : RowV w1 (.slice ao vs.length ca) vs.length (objsV F vs)) (hb : Below w1.heap.size w1 w) (hO : w.ownsRow w1.heap.size 45 4 (.slice oo out.length oc) out.length (objsV F out)) :
    Calls Tryz.prog 39 #[.slice oo out.length oc, .slice ao vs.length ca, .int .u64 x] w fun ev w' => ∃ oo' oc', ev = .returned (.slice oo' (comeP out x).length oc') ∧ w'.ownsRow w1.heap.size 45 4 (.slice oo' (comeP out x).length oc') (comeP out x).length (objsV F (comeP out x)) ∧ Below w1.heap.size w1 w' := by
  have kp := points_any x x0 x1 w
  have ko := objectAt_any F out oo oc (ptI x) hon w (rowV_own hO)
  have kl := objectAt_any F vs ao ca (ptI x) hn w (hL.below hb)
  obtain ⟨r, hr⟩ : ∃ r, r = comeP out x := ⟨_, rfl⟩
  rw [← hr]
  have HR := toHid hr
  have HO := toHid hO
  have HB := toHid hb
  have HL := toHid hL
  clear hr hO hb hL
  by_cases h1 : 0 ≤ ptI x
  · have hI1 : ¬ ptI x < 0 := by omega
    by_cases h2 : 0 ≤ objI out (ptI x)
    · have hE : r = out := by rw [HR.out]; unfold comeP; rw [if_neg (by omega)]
      subst hE
      go_enter Tryz.func39, Tryz.ntmps39
      go_wp2_with fail
      refine kp.mono ?_
      rintro ev w2 ⟨rfl, hq⟩
      rw [hq]
      clear hq w2
      go_wp2_with fail
      refine ko.mono ?_
      rintro ev w2 ⟨rfl, hq⟩
      rw [hq]
      clear hq w2
      go_wp2_with fail
      go_ret
      exact ⟨oo, oc, rfl, HO.out, HB.out⟩
    · obtain ⟨k, f, hk, hkf, hfx, hkl⟩ := objI_some (hp h1)
      have hE : r = out ++ [f] := by rw [HR.out]; unfold comeP; rw [if_pos ⟨h1, by omega⟩, ← hfx]; simp
      rw [objI_neg h2] at ko
      rw [hk] at kl
      subst hE
      obtain ⟨_, _, e, _, f1⟩ := HL.out
      cases e
      obtain ⟨p1, o1, rfl, l1, g1⟩ := f1 (by omega)
      have HB2 := HB.out
      have d0 : w.cell? ⟨p1, o1 + k * 4, none⟩ = some (.int .i64 (f : Int)) := (HB2.cell (p := ⟨p1, o1 + k * 4, none⟩) l1).trans (g1 (k * 4) _ (objs_at hkf 0 (by omega)))
      have d1 : w.cell? ⟨p1, o1 + k * 4 + 1, none⟩ = some (.int .i64 (F f / 4 % 256)) := (HB2.cell (p := ⟨p1, o1 + k * 4 + 1, none⟩) l1).trans (g1 (k * 4 + 1) _ (objs_at hkf 1 (by omega)))
      have d2 : w.cell? ⟨p1, o1 + k * 4 + 2, none⟩ = some (.int .i64 (F f / 1024 % 16)) := (HB2.cell (p := ⟨p1, o1 + k * 4 + 2, none⟩) l1).trans (g1 (k * 4 + 2) _ (objs_at hkf 2 (by omega)))
      have d3 : w.cell? ⟨p1, o1 + k * 4 + 3, none⟩ = some (.int .i64 (F f / 65536)) := (HB2.cell (p := ⟨p1, o1 + k * 4 + 3, none⟩) l1).trans (g1 (k * 4 + 3) _ (objs_at hkf 3 (by omega)))
      have HV : Hid (objV F f = [.int .i64 (f : Int), .int .i64 (F f / 4 % 256), .int .i64 (F f / 1024 % 16), .int .i64 (F f / 65536)]) := rfl
      have hk0 : (0 : Int) ≤ (k : Int) := by omega
      have hk1 : (k : Int) < (vs.length : Int) := by omega
      have hpl := lt_of_cell d0
      clear g1 f1 hkf hfx hk HB2 HL h2 hp
      generalize F f / 4 % 256 = k1 at *
      generalize F f / 1024 % 16 = k2 at *
      generalize F f / 65536 = k3 at *
      obtain ⟨i0, hi0, hz0, hz1, hz2⟩ := infoObj
      go_enter Tryz.func39, Tryz.ntmps39
      go_wp2_with fail
      refine kp.mono ?_
      rintro ev w2 ⟨rfl, hq⟩
      rw [hq]
      clear hq w2
      go_wp2_with fail
      refine ko.mono ?_
      rintro ev w2 ⟨rfl, hq⟩
      rw [hq]
      clear hq w2
      go_wp2_with (first | (at_builtin; refine wpList_append_lies _ rfl _ _ _ rfl w1.heap.size 45 i0 (.agg #[.int .i64 0, .int .i64 0, .int .i64 0, .int .i64 0]) 4 32 Tryz.underlying42 hi0 hz0 hz1 hz2 rfl (by decide) (.slice oo out.length oc) out.length (objsV F out) rfl (HO.out.alloc _) ⟨w.heap.size, 0, none⟩ 1 1 [.int .i64 (f : Int), .int .i64 k1, .int .i64 k2, .int .i64 k3] rfl rfl (World.news_of_block (cs := #[.int .i64 (f : Int), .int .i64 k1, .int .i64 k2, .int .i64 k3]) (t := 45) (heap_alloc_new _ _)) (by rw [← HV.out]; exact objV_one F f) (by decide) (by unfold maxLen; omega) (by omega) (by have := HB.out.size; simp; omega) _ rfl ?_; intro g' cap' w2 hown2 hgrow2 hat2 hlt2) | (go_at_call 27; refine kl.mono ?_; rintro ev w2 ⟨rfl, hq⟩; rw [hq]; clear hq w2))
      go_ret
      refine ⟨some ⟨g', 0, none⟩, cap', by rw [List.length_append]; rfl, ?_, ?_⟩
      · rw [objsV_snoc, HV.out, List.length_append]
        exact hown2
      · exact (HB.out.alloc HB.out.size _).grown hgrow2 (by have := HB.out.size; simp; omega) (fun k hk => (own_lt2 HO.out k hk).1)
  · have hI1 : ptI x < 0 := by omega
    have hE : r = out := by rw [HR.out]; unfold comeP; rw [if_neg (by omega)]
    subst hE
    go_enter Tryz.func39, Tryz.ntmps39
    go_wp2_with fail
    refine kp.mono ?_
    rintro ev w2 ⟨rfl, hq⟩
    rw [hq]
    clear hq w2
    go_wp2_with fail
    go_ret
    exact ⟨oo, oc, rfl, HO.out, HB.out⟩
end Go.Proofs.YtnenggkgfhgcnaaGreatDoor

/- What can be come to in a memory, plainly: the order in which it is. -/
namespace Go.Proofs.YtnenggkgfhgcnaaGreatDoor
open Go.RowKit

/-- A word that points to no object but one of these. -/
def Held (vs : List Nat) (x : Int) : Prop := 0 ≤ ptI x → 0 ≤ objI vs (ptI x)
theorem held_field {vs : List Nat} {x : Int} (h : fieldR vs x = true) : Held vs x := fun hp => by
  unfold fieldR at h
  unfold ptI at hp
  split at hp
  · rename_i hx
    rw [if_pos hx.1] at h
    have hz : (x == 0) = false := by rw [beq_eq_false_iff_ne]; omega
    rw [hz, Bool.false_or, Bool.and_eq_true] at h
    exact of_decide_eq_true h.2
  · omega
/-- A list of objects, each once. -/
structure Outs (vs out : List Nat) : Prop where
  sub : ∀ f ∈ out, f ∈ vs
  once : out.Nodup
theorem nodup_len : ∀ (out vs : List Nat), out.Nodup → (∀ f ∈ out, f ∈ vs) → out.length ≤ vs.length
  | [], _, _, _ => Nat.zero_le _
  | a :: out, vs, h, hs => by
    rw [List.nodup_cons] at h
    have h1 := nodup_len out (vs.erase a) h.2 (fun f hf => by
      have hne : f ≠ a := fun e => h.1 (by rw [← e]; exact hf)
      exact (List.mem_erase_of_ne hne).2 (hs f (by simp [hf])))
    have ha := hs a (by simp)
    rw [List.length_erase_of_mem ha] at h1
    have := List.length_pos_of_mem ha
    rw [List.length_cons]
    omega
theorem Outs.len {vs out : List Nat} (h : Outs vs out) : out.length ≤ vs.length := nodup_len _ _ h.once h.sub
theorem Outs.come {vs out : List Nat} (h : Outs vs out) {x : Int} (hx : Held vs x) : Outs vs (comeP out x) := by
  unfold comeP
  split
  · rename_i hc
    obtain ⟨f, hf⟩ : ∃ f : Nat, (f : Int) = ptI x := ⟨(ptI x).toNat, by omega⟩
    have hv := hx hc.1
    rw [← hf] at hv hc
    have e : (ptI x).toNat = f := by omega
    rw [e]
    have hn : f ∉ out := fun hm => by
      have := objI_mem.2 hm
      omega
    refine ⟨fun g hg => ?_, ?_⟩
    · rcases List.mem_append.1 hg with hg | hg
      · exact h.sub g hg
      · simp at hg; rw [hg]; exact objI_mem.1 hv
    · rw [List.nodup_append]
      refine ⟨h.once, by simp, fun a ha b hb => ?_⟩
      simp at hb
      rw [hb]
      exact fun e => hn (e ▸ ha)
  · exact h
def comesP (out : List Nat) (l : List Int) : List Nat := l.foldl comeP out
theorem comesP_take {out : List Nat} {l : List Int} {k : Nat} {x : Int} (h : l[k]? = some x) : comesP out (l.take (k + 1)) = comeP (comesP out (l.take k)) x := by
  unfold comesP
  rw [List.take_add_one, h, List.foldl_append]
  rfl
theorem Outs.comes {vs : List Nat} : ∀ {l : List Int} {out : List Nat}, Outs vs out → (∀ x ∈ l, Held vs x) → Outs vs (comesP out l)
  | [], _, h, _ => h
  | x :: l, _, h, hx => Outs.comes (l := l) (h.come (hx x (by simp))) (fun y hy => hx y (by simp [hy]))
theorem comeP_pre (out : List Nat) (x : Int) : ∃ l, comeP out x = out ++ l := by
  unfold comeP
  split
  · exact ⟨_, rfl⟩
  · exact ⟨[], by simp⟩
theorem comesP_pre : ∀ (l : List Int) (out : List Nat), ∃ r, comesP out l = out ++ r
  | [], out => ⟨[], by simp [comesP]⟩
  | x :: l, out => by
    obtain ⟨a, ha⟩ := comeP_pre out x
    obtain ⟨b, hb⟩ := comesP_pre l (comeP out x)
    exact ⟨a ++ b, by show comesP (comeP out x) l = _; rw [hb, ha, List.append_assoc]⟩
/-- What an object leads to. -/
def stepP (F : Nat → Int) (out : List Nat) (f : Nat) : List Nat := if F f / 4 % 256 < 8 then out else comesP out (fieldsP F f)
/-- All that can be come to, from the object with that number on. -/
def reachP (F : Nat → Int) : Nat → List Nat → Nat → List Nat
  | 0, out, _ => out
  | n + 1, out, k => match out[k]? with
    | none => out
    | some f => reachP F n (stepP F out f) (k + 1)
theorem reachP_end {F : Nat → Int} {out : List Nat} {k : Nat} (h : out.length ≤ k) : ∀ n, reachP F n out k = out
  | 0 => rfl
  | n + 1 => by unfold reachP; rw [List.getElem?_eq_none h]
theorem reachP_go {F : Nat → Int} {out : List Nat} {k f n : Nat} (h : out[k]? = some f) : reachP F (n + 1) out k = reachP F n (stepP F out f) (k + 1) := by
  conv => lhs; unfold reachP
  rw [h]
/-- A memory's objects and what they hold, as far as reaching goes. -/
structure Reachy (F : Nat → Int) (vs : List Nat) : Prop where
  held : ∀ f ∈ vs, ¬ F f / 4 % 256 < 8 → ∀ x ∈ fieldsP F f, Held vs x
theorem Outs.step {F : Nat → Int} {vs out : List Nat} (h : Outs vs out) (hR : Reachy F vs) {f : Nat} (hf : f ∈ vs) : Outs vs (stepP F out f) := by
  unfold stepP
  split
  · exact h
  · rename_i hc
    exact h.comes (hR.held f hf hc)
theorem stepP_pre (F : Nat → Int) (out : List Nat) (f : Nat) : ∃ r, stepP F out f = out ++ r := by
  unfold stepP
  split
  · exact ⟨[], by simp⟩
  · exact comesP_pre _ _
end Go.Proofs.YtnenggkgfhgcnaaGreatDoor

/- The document's memory: all that can be come to (Reached), how much that is (LiveOf), by contracts. -/
namespace Go.Proofs.YtnenggkgfhgcnaaGreatDoor
open Go.RowKit

theorem shape_len {m : MD} {vs : List Nat} (S : m.Shape vs) : 0 < m.W.length ∧ m.W.length ≤ 300000 ∧ 0 < m.C.length := by
  have hnum := S.1.nums
  have hw := S.1.w
  have hc := S.1.c
  unfold numsOK at hnum
  have : 1 ≤ (m.old + m.card - 1) / m.card := (Int.le_ediv_iff_mul_le (by omega)).2 (by omega)
  omega
theorem md_range {m : MD} (h64 : MD64 m) : ∀ i, i < m.W.length → 0 ≤ m.F i ∧ m.F i < 18446744073709551616 := fun i hi => by
  unfold MD.F
  rw [List.getD_eq_getElem?_getD, List.getElem?_eq_getElem hi]
  exact h64.w _ (List.getElem_mem hi)
theorem all_shape (p o : Nat) (m : MD) (vs : List Nat) (hS : m.Shape vs) (h64 : MD64 m) (w : World) (R : RepM p o m w) :
    Calls Tryz.prog 24 #[.pointer (some ⟨p, o, none⟩)] w fun ev w' => ∃ ao cap, ev = .returned (.tuple #[.slice ao vs.length cap, .bool true]) ∧ RowV w' (.slice ao vs.length cap) vs.length (objsV m.F vs) ∧ Below w.heap.size w w' := by
  obtain ⟨_, _, _, _, _, hp, M, ⟨aW, cW, rfl, hcW, fW⟩, _, _, _, ⟨aC, cC, rfl, hcC, fC⟩⟩ := R
  obtain ⟨b, ob, rfl, lb, gW⟩ := fW (shape_len hS).1
  refine (all_any p o b ob m.W.length m.C.length cW m.half m.old m.card m.used m.top m.oldTop _ _ _ _ m.n0 m.n1 m.m0 m.m1 m.F w M hS.1 (MD.parts hS.1) (fun i hi => gW i _ (words_at (by unfold MD.F; rw [List.getD_eq_getElem?_getD, List.getElem?_eq_getElem hi]; rfl))) (md_range h64)).mono ?_
  obtain ⟨k1, k2, rfl, g1, g2⟩ := hS.bare
  rintro ev w' ⟨hb, ⟨l1, l2, ao, cap, e1, e2, rfl, hown⟩ | ⟨hno, _⟩⟩
  · rw [g1] at e1
    rw [g2] at e2
    cases e1
    cases e2
    rw [List.length_append]
    exact ⟨ao, cap, rfl, rowV_own hown, hb⟩
  · rw [g1, g2] at hno
    rcases hno with h | h <;> cases h
theorem MD.Shape.reachy {m : MD} {vs : List Nat} (S : m.Shape vs) (h64 : MD64 m) : Reachy m.F vs where
  held f hf hkd x hx := by
    obtain ⟨j, hj⟩ := List.mem_iff_getElem?.1 hx
    have hl := (List.getElem?_eq_some_iff.1 hj).1
    rw [fieldsP_len] at hl
    rw [fieldsP_at hl] at hj
    cases hj
    have hfi := (S.fine f hf).2
    refine held_field ?_
    rw [fieldR_eq (nW := m.W.length) (fun v hv => by have := (S.fine v hv).2; omega) (shape_len S).2.1 (md_range h64 _ (by omega)).1]
    exact S.held hf hl hkd
theorem MD.Shape.roots {m : MD} {vs : List Nat} (S : m.Shape vs) (h64 : MD64 m) : ∀ x ∈ m.R, Held vs x := fun x hx => by
  have h := S.2.2.2
  unfold MD.restB at h
  rw [Bool.and_eq_true] at h
  refine held_field ?_
  rw [fieldR_eq (nW := m.W.length) (fun v hv => by have := (S.fine v hv).2; omega) (shape_len S).2.1 (h64.r x hx).1]
  exact List.all_eq_true.1 h.1 x hx
/-- All that can be come to. -/
def MD.reach (m : MD) (vs : List Nat) : List Nat := reachP m.F (vs.length + 1) (comesP [] m.R) 0
theorem outs_nil (vs : List Nat) : Outs vs [] := ⟨fun f h => by simp at h, List.nodup_nil⟩
set_option maxHeartbeats 8000000 in
set_option maxRecDepth 100000 in
theorem reached_any (p o : Nat) (m : MD) (vs : List Nat) (hS : m.Shape vs) (h64 : MD64 m) (bR : m.R.length ≤ 300000) (w : World) (R : RepM p o m w) :
    Calls Tryz.prog 19 #[.pointer (some ⟨p, o, none⟩)] w fun ev w' => ∃ ao cap, ev = .returned (.slice ao (m.reach vs).length cap) ∧ RowV w' (.slice ao (m.reach vs).length cap) (m.reach vs).length (objsV m.F (m.reach vs)) ∧ Below w.heap.size w w' := by
  have ka := all_shape p o m vs hS h64 w R
  have hfew := hS.few
  have HR := toHid R
  have HS := toHid hS
  have H64 := toHid h64
  obtain ⟨rr, hrr⟩ : ∃ rr, rr = m.reach vs := ⟨_, rfl⟩
  rw [← hrr]
  have HRR := toHid hrr
  clear R hS h64 hrr
  go_enter Tryz.func19, Tryz.ntmps19
  go_wp2_with fail
  refine ka.mono ?_
  rintro ev w1 ⟨ao, ca, rfl, hL, hb1⟩
  clear ka
  have HL := toHid hL
  have HB1 := toHid hb1
  have R1 := HR.out.below hb1
  have HR1 := toHid R1
  obtain ⟨vW, vR, vK, vI, vC, hp, M, ⟨aW, cW, rfl, hcW, fW⟩, ⟨aR, cR, rfl, hcR, fR⟩, _, _, _⟩ := R1
  obtain ⟨bW, oW, rfl, lW, gW⟩ := fW (shape_len HS.out).1
  have HGW := toHid gW
  have HFR := toHid fR
  have c3 := M.c3
  have c7 := M.c7
  clear hL hb1 fW fR gW M
  go_wp2_with fail
  go_loopg [5, 6] (m.R.length + 1) (fun gk v5 v6 wr => ∃ (k : Nat) (oo : Option Addr) (oc : Nat), gk = m.R.length + 1 - k ∧ k ≤ m.R.length ∧ v6 = .int .i64 (k : Int) ∧ v5 = .slice oo (comesP [] (m.R.take k)).length oc ∧ Below w1.heap.size w1 wr ∧ Hid (wr.ownsRow w1.heap.size 45 4 (.slice oo (comesP [] (m.R.take k)).length oc) (comesP [] (m.R.take k)).length (objsV m.F (comesP [] (m.R.take k)))) ∧ Hid (Outs vs (comesP [] (m.R.take k))))
  case atStart => exact ⟨0, none, 0, rfl, Nat.zero_le _, rfl, rfl, Below.refl _ _, ⟨rfl, .inl ⟨rfl, rfl⟩⟩, outs_nil vs⟩
  case round =>
    obtain ⟨k, oo, oc, hgk, hk, rfl, rfl, hb, hO, hU⟩ := hrel
    have HG := toHid hgk
    have hk0 : (0 : Int) ≤ (k : Int) := by omega
    have hol := hU.out.len
    have d3 := (hb.cell (p := ⟨p, o + 3, none⟩) (lt_of_cell c3)).trans c3
    have d7 := (hb.cell (p := ⟨p, o + 7, none⟩) (lt_of_cell c7)).trans c7
    have HB := toHid hb
    clear hgk hb
    by_cases hlt : k < m.R.length
    · have hI : (k : Int) < (m.R.length : Int) := by omega
      obtain ⟨x, hx⟩ : ∃ x, m.R[k]? = some x := ⟨_, List.getElem?_eq_getElem hlt⟩
      obtain ⟨pR, oR, rfl, lR, gR⟩ := HFR.out (by omega)
      have r1 : wr.cell? ⟨pR, oR + k, none⟩ = some (.int .u64 x) := (HB.out.cell (p := ⟨pR, oR + k, none⟩) lR).trans (gR k _ (words_at hx))
      have hxr := H64.out.r x (List.mem_of_getElem? hx)
      have hxh := HS.out.roots H64.out x (List.mem_of_getElem? hx)
      have kc := come_any m.F vs (comesP [] (m.R.take k)) ao oo ca oc hfew (by omega) x hxr.1 hxr.2 hxh w1 wr HL.out HB.out hO.out
      rw [← comesP_take hx] at kc
      have HU2 : Hid (Outs vs (comesP [] (m.R.take (k + 1)))) := by show Outs _ _; rw [comesP_take hx]; exact hU.out.come hxh
      clear gR hx hxr hxh hO hU
      go_wp2_with fail
      refine kc.mono ?_
      rintro ev w2 ⟨oo2, oc2, rfl, ho2, hb2⟩
      clear kc
      have HO2 := toHid ho2
      clear ho2
      go_wp2_with fail
      go_roundg (m.R.length + 1 - (k + 1))
      case measure => have := HG.out; omega
      case rel => exact ⟨k + 1, oo2, oc2, rfl, by omega, by go_num, rfl, hb2, HO2, HU2⟩
    · have hI : ¬ (k : Int) < (m.R.length : Int) := by omega
      have hkk : m.R.take k = m.R := List.take_of_length_le (by omega)
      rw [hkk] at hO hU hol ⊢
      clear hkk
      obtain ⟨ou, hou⟩ : ∃ ou, ou = comesP [] m.R := ⟨_, rfl⟩
      rw [← hou] at hO hU hol ⊢
      have HRE : Hid (rr = reachP m.F (vs.length + 1) ou 0) := by show _ = _; rw [HRR.out, hou]; rfl
      clear hou
      go_wp2_with fail
      go_loopg [5, 7] (vs.length + 1) (fun gk v5 v7 wx => ∃ (k : Nat) (ou : List Nat) (oo : Option Addr) (oc : Nat), gk = vs.length + 1 - k ∧ k ≤ ou.length ∧ v7 = .int .i64 (k : Int) ∧ v5 = .slice oo ou.length oc ∧ Below w1.heap.size w1 wx ∧ Hid (wx.ownsRow w1.heap.size 45 4 (.slice oo ou.length oc) ou.length (objsV m.F ou)) ∧ Hid (Outs vs ou) ∧ Hid (rr = reachP m.F (vs.length + 1 - k) ou k))
      case atStart => exact ⟨0, ou, oo, oc, rfl, Nat.zero_le _, rfl, rfl, HB.out, hO, hU, HRE⟩
      case round =>
        clear hI hlt hk hk0 HG hO hU hol d3 d7 HB HRE
        obtain ⟨k, ou, oo, oc, hgk, hk, rfl, rfl, hb, hO, hU, HRE⟩ := hrel
        obtain ⟨wx, hwx⟩ : ∃ wx, wx = wr := ⟨_, rfl⟩
        subst hwx
        have HG := toHid hgk
        have hk0 : (0 : Int) ≤ (k : Int) := by omega
        have hol := hU.out.len
        have HB := toHid hb
        clear hgk hb
        by_cases hlt : k < ou.length
        · have hI : (k : Int) < (ou.length : Int) := by omega
          obtain ⟨f, hf⟩ : ∃ f, ou[k]? = some f := ⟨_, List.getElem?_eq_getElem hlt⟩
          have hfv := hU.out.sub f (List.mem_of_getElem? hf)
          obtain ⟨_, _, e, _, f1⟩ := rowV_own hO.out
          cases e
          obtain ⟨p1, o1, rfl, l1, g1⟩ := f1 (by omega)
          have r1 : wx.cell? ⟨p1, o1 + k * 4 + 1, none⟩ = some (.int .i64 (m.F f / 4 % 256)) := g1 (k * 4 + 1) _ (objs_at hf 1 (by omega))
          obtain ⟨n', hn'⟩ : ∃ n', vs.length + 1 - k = n' + 1 := ⟨vs.length - k, by omega⟩
          have HGO : Hid (rr = reachP m.F n' (stepP m.F ou f) (k + 1)) := by show _ = _; rw [HRE.out, hn', reachP_go hf]
          have HN' : Hid (n' = vs.length + 1 - (k + 1)) := by show _ = _; omega
          have HF := toHid hf
          clear hn' hf HRE f1
          by_cases hraw : m.F f / 4 % 256 < 8
          · have HST : Hid (stepP m.F ou f = ou) := by show _ = _; unfold stepP; rw [if_pos hraw]
            have HRE2 : Hid (rr = reachP m.F (vs.length + 1 - (k + 1)) ou (k + 1)) := by show _ = _; rw [HGO.out, HST.out, HN'.out]
            clear g1 HGO HST
            generalize m.F f / 4 % 256 = kd at *
            go_wp2_with fail
            go_roundg (vs.length + 1 - (k + 1))
            case measure => have := HG.out; omega
            case rel => exact ⟨k + 1, ou, _, oc, rfl, by omega, by go_num, rfl, HB.out, hO, hU, HRE2⟩
          · obtain ⟨hfh, hfl⟩ := HS.out.fine f hfv
            obtain ⟨sz, hsz⟩ : ∃ sz, sz = szN (m.F f) := ⟨_, rfl⟩
            have hszI : m.F f / 65536 = (sz : Int) := by
              have := md_range H64.out f (by omega)
              rw [hsz]
              unfold szN
              omega
            have hs4 : sz ≤ 4096 := by
              unfold headB at hfh
              have := of_decide_eq_true hfh
              omega
            have hfsz : f + 1 + sz ≤ m.W.length := by rw [hsz]; exact hfl
            have hW3 := (shape_len HS.out).2.1
            have HST : Hid (stepP m.F ou f = comesP ou (fieldsP m.F f)) := by show _ = _; unfold stepP; rw [if_neg hraw]
            have HLN : Hid ((fieldsP m.F f).length = sz) := by show _ = _; rw [fieldsP_len, hsz]
            have HRY := toHid ((HS.out.reachy H64.out).held f hfv hraw)
            clear hfh hfl hsz g1
            generalize hgkd : m.F f / 4 % 256 = kd at *
            clear hgkd
            go_wp2_with fail
            go_loopg [5, 8] (sz + 1) (fun gk v5 v8 wy => ∃ (i : Nat) (oo : Option Addr) (oc : Nat), gk = sz + 1 - i ∧ i ≤ sz ∧ v8 = .int .i64 (i : Int) ∧ v5 = .slice oo (comesP ou ((fieldsP m.F f).take i)).length oc ∧ Below w1.heap.size w1 wy ∧ Hid (wy.ownsRow w1.heap.size 45 4 (.slice oo (comesP ou ((fieldsP m.F f).take i)).length oc) (comesP ou ((fieldsP m.F f).take i)).length (objsV m.F (comesP ou ((fieldsP m.F f).take i)))) ∧ Hid (Outs vs (comesP ou ((fieldsP m.F f).take i))))
            case atStart => exact ⟨0, some ⟨p1, o1, none⟩, oc, rfl, Nat.zero_le _, rfl, rfl, HB.out, hO, hU⟩
            case round =>
              clear r1 l1 hO hU hol HB hI hlt
              obtain ⟨i, oo, oc, hgi, hi, rfl, rfl, hb, hO, hU⟩ := hrel
              obtain ⟨wy, hwy⟩ : ∃ wy, wy = wr := ⟨_, rfl⟩
              subst hwy
              have HGI := toHid hgi
              have hi0 : (0 : Int) ≤ (i : Int) := by omega
              have hol := hU.out.len
              have HB := toHid hb
              obtain ⟨ri, hri⟩ := comesP_pre ((fieldsP m.F f).take i) ou
              have hkf : (comesP ou ((fieldsP m.F f).take i))[k]? = some f := by
                rw [hri, List.getElem?_append_left (List.getElem?_eq_some_iff.1 HF.out).1]
                exact HF.out
              have hkl : (k : Int) < ((comesP ou ((fieldsP m.F f).take i)).length : Int) := by
                have := (List.getElem?_eq_some_iff.1 hkf).1
                omega
              obtain ⟨_, _, e, _, f1⟩ := rowV_own hO.out
              cases e
              obtain ⟨p2, o2, rfl, l2, g2⟩ := f1 (by have := (List.getElem?_eq_some_iff.1 hkf).1; omega)
              have r0 : wy.cell? ⟨p2, o2 + k * 4, none⟩ = some (.int .i64 (f : Int)) := g2 (k * 4) _ (objs_at hkf 0 (by omega))
              have r3 : wy.cell? ⟨p2, o2 + k * 4 + 3, none⟩ = some (.int .i64 (sz : Int)) := by rw [← hszI]; exact g2 (k * 4 + 3) _ (objs_at hkf 3 (by omega))
              have hp2 := lt_of_cell r0
              clear hgi hb f1 g2 hri hkf
              by_cases hlti : i < sz
              · have hI : (i : Int) < (sz : Int) := by omega
                obtain ⟨x, hx⟩ : ∃ x, x = m.F (f + 1 + i) := ⟨_, rfl⟩
                have hxf : (fieldsP m.F f)[i]? = some x := by rw [hx]; exact fieldsP_at (by have := HLN.out; rw [fieldsP_len] at this; omega)
                have d3 := (HB.out.cell (p := ⟨p, o + 3, none⟩) (lt_of_cell c3)).trans c3
                have rx : wy.cell? ⟨bW, oW + (f + 1 + i), none⟩ = some (.int .u64 x) := by
                  rw [hx]
                  exact (HB.out.cell (p := ⟨bW, oW + (f + 1 + i), none⟩) lW).trans (HGW.out (f + 1 + i) _ (words_at (by unfold MD.F; rw [List.getD_eq_getElem?_getD, List.getElem?_eq_getElem (by omega)]; rfl)))
                have hxr := md_range H64.out (f + 1 + i) (by omega)
                rw [← hx] at hxr
                have hxh := HRY.out x (List.mem_of_getElem? hxf)
                have kc := toHid (fun (q : Nat) => come_any m.F vs (comesP ou ((fieldsP m.F f).take i)) ao (some ⟨p2, o2, none⟩) ca oc hfew (by omega) x hxr.1 hxr.2 hxh w1 (wy.drewN q) HL.out (below_drewN HB.out) hO.out)
                rw [← comesP_take hxf] at kc
                have HU2 : Hid (Outs vs (comesP ou ((fieldsP m.F f).take (i + 1)))) := by show Outs _ _; rw [comesP_take hxf]; exact hU.out.come hxh
                have e1 : IntKind.i64.wrap ((f : Int) + 1) = (f : Int) + 1 := wrapI _ (by omega) (by omega)
                have e2 : IntKind.i64.wrap ((f : Int) + 1 + (i : Int)) = (((f + 1 + i : Nat)) : Int) := by rw [wrapI _ (by omega) (by omega)]; omega
                have hy0 : (0 : Int) ≤ ((f + 1 + i : Nat) : Int) := by omega
                have hy1 : ((f + 1 + i : Nat) : Int) < (m.W.length : Int) := by omega
                clear hx hxf hxr hxh hO hU
                go_upto_region 14 with fail
                go_region_with ((go_at_call 39; refine (kc.out _).mono ?_; rintro ev w2 ⟨oo2, oc2, rfl, ho2, hb2⟩))
                all_goals (have HO2 := toHid ho2)
                all_goals (have HB2 := toHid hb2)
                all_goals clear ho2 hb2
                all_goals go_wp2_with fail
                all_goals go_roundg (sz + 1 - (i + 1))
                all_goals first | exact ⟨i + 1, oo2, oc2, rfl, by omega, by go_num, rfl, HB2.out, HO2, HU2⟩ | exact ⟨i + 1, oo2, oc2, rfl, by omega, by go_num, rfl, HB2.out.drew, HO2.out, HU2⟩ | (have := HGI.out; omega)
              · have hI : ¬ (i : Int) < (sz : Int) := by omega
                have hii : (fieldsP m.F f).take i = fieldsP m.F f := List.take_of_length_le (by have := HLN.out; omega)
                rw [hii, ← HST.out] at hO hU hol ⊢
                clear hii
                obtain ⟨r, hr⟩ := stepP_pre m.F ou f
                have hkl2 : k + 1 ≤ (stepP m.F ou f).length := by rw [hr, List.length_append]; have := (List.getElem?_eq_some_iff.1 HF.out).1; omega
                have HRE2 : Hid (rr = reachP m.F (vs.length + 1 - (k + 1)) (stepP m.F ou f) (k + 1)) := by show _ = _; rw [HGO.out, HN'.out]
                clear hr
                go_wp2_with fail
                go_roundg (vs.length + 1 - (k + 1))
                case measure => have := HG.out; omega
                case rel => exact ⟨k + 1, stepP m.F ou f, _, oc, rfl, hkl2, by go_num, rfl, HB.out, hO, hU, HRE2⟩
        · have hI : ¬ (k : Int) < (ou.length : Int) := by omega
          have HE : Hid (rr = ou) := by show _ = _; rw [HRE.out, reachP_end (by omega)]
          go_wp2_with fail
          go_ret
          have e := HE.out
          subst e
          exact ⟨oo, oc, rfl, rowV_own hO.out, HB1.out.trans (HB.out.mono HB1.out.size)⟩
theorem sumN_step {F : Nat → Int} {l : List Nat} {k f : Nat} (h : l[k]? = some f) : ((l.take (k + 1)).map (fun f => 1 + szN (F f))).sum = ((l.take k).map (fun f => 1 + szN (F f))).sum + (1 + szN (F f)) := by
  rw [List.take_add_one, h, List.map_append, List.sum_append]
  simp
/-- Live words. -/
def MD.live (m : MD) (vs : List Nat) : Nat := ((m.reach vs).map (fun f => 1 + szN (m.F f))).sum
end Go.Proofs.YtnenggkgfhgcnaaGreatDoor

/- The document's memory: how many words live (LiveOf), by a contract. -/
namespace Go.Proofs.YtnenggkgfhgcnaaGreatDoor
open Go.RowKit

theorem reach_outs {m : MD} {vs : List Nat} (S : m.Shape vs) (h64 : MD64 m) : Outs vs (m.reach vs) := by
  have go : ∀ (n : Nat) (out : List Nat) (k : Nat), Outs vs out → Outs vs (reachP m.F n out k) := by
    intro n
    induction n with
    | zero => intro out k h; exact h
    | succ n ih =>
      intro out k h
      unfold reachP
      cases hk : out[k]? with
      | none => exact h
      | some f => exact ih _ _ (h.step (S.reachy h64) (h.sub f (List.mem_of_getElem? hk)))
  exact go _ _ _ ((outs_nil vs).comes (S.roots h64))
set_option maxHeartbeats 4000000 in
set_option maxRecDepth 100000 in
theorem liveOf_any (p o : Nat) (m : MD) (vs : List Nat) (hS : m.Shape vs) (h64 : MD64 m) (bR : m.R.length ≤ 300000) (w : World) (R : RepM p o m w) :
    Calls Tryz.prog 10 #[.pointer (some ⟨p, o, none⟩)] w fun ev w' => ev = .returned (.int .i64 (m.live vs : Int)) ∧ Below w.heap.size w w' := by
  have kr := reached_any p o m vs hS h64 bR w R
  have hU := reach_outs hS h64
  have hol := hU.len
  have hfew := hS.few
  have HU := toHid hU
  have HS := toHid hS
  have H64 := toHid h64
  obtain ⟨rr, hrr⟩ : ∃ rr, rr = m.reach vs := ⟨_, rfl⟩
  rw [← hrr] at kr hol HU
  have HV : Hid (m.live vs = (rr.map (fun f => 1 + szN (m.F f))).sum) := by show _ = _; unfold MD.live; rw [hrr]
  obtain ⟨lv, hlv⟩ : ∃ lv, lv = m.live vs := ⟨_, rfl⟩
  rw [← hlv]
  have HLV : Hid (lv = (rr.map (fun f => 1 + szN (m.F f))).sum) := hlv.trans HV.out
  clear hS h64 hU hrr HV hlv R
  go_enter Tryz.func10, Tryz.ntmps10
  go_wp2_with fail
  refine kr.mono ?_
  rintro ev w1 ⟨ao, cap, rfl, hL, hb1⟩
  have HL := toHid hL
  clear kr hL
  go_wp2_with fail
  go_loopg [4, 5] (rr.length + 1) (fun gk v4 v5 wr => ∃ (k n : Nat), gk = rr.length + 1 - k ∧ k ≤ rr.length ∧ v5 = .int .i64 (k : Int) ∧ v4 = .int .i64 (n : Int) ∧ n ≤ k * 4097 ∧ wr = w1 ∧ Hid (n = ((rr.take k).map (fun f => 1 + szN (m.F f))).sum))
  case atStart => exact ⟨0, 0, rfl, Nat.zero_le _, rfl, rfl, Nat.le_refl _, rfl, rfl⟩
  case round =>
    obtain ⟨k, n, hgk, hk, rfl, rfl, hn, rfl, hsum⟩ := hrel
    have HG := toHid hgk
    have hk0 : (0 : Int) ≤ (k : Int) := by omega
    clear hgk
    by_cases hlt : k < rr.length
    · have hI : (k : Int) < (rr.length : Int) := by omega
      obtain ⟨f, hf⟩ : ∃ f, rr[k]? = some f := ⟨_, List.getElem?_eq_getElem hlt⟩
      have hfv := HU.out.sub f (List.mem_of_getElem? hf)
      obtain ⟨hfh, hfl⟩ := HS.out.fine f hfv
      obtain ⟨sz, hsz⟩ : ∃ sz, sz = szN (m.F f) := ⟨_, rfl⟩
      have hszI : m.F f / 65536 = (sz : Int) := by
        have := md_range H64.out f (by omega)
        rw [hsz]
        unfold szN
        omega
      have hs4 : sz ≤ 4096 := by
        unfold headB at hfh
        have := of_decide_eq_true hfh
        omega
      obtain ⟨_, _, e, _, f1⟩ := HL.out
      cases e
      obtain ⟨p1, o1, rfl, l1, g1⟩ := f1 (by omega)
      have r3 : wr.cell? ⟨p1, o1 + k * 4 + 3, none⟩ = some (.int .i64 (sz : Int)) := by rw [← hszI]; exact g1 (k * 4 + 3) _ (objs_at hf 3 (by omega))
      have HS2 : Hid (n + 1 + sz = ((rr.take (k + 1)).map (fun f => 1 + szN (m.F f))).sum) := by show _ = _; rw [sumN_step hf, ← hsum.out, ← hsz]; omega
      clear g1 f1 hsum hsz hszI hfh hfl hf
      go_wp2_with fail
      go_roundg (rr.length + 1 - (k + 1))
      case measure => have := HG.out; omega
      case rel => exact ⟨k + 1, n + 1 + sz, rfl, by omega, by go_num, by go_num, by omega, rfl, HS2⟩
    · have hI : ¬ (k : Int) < (rr.length : Int) := by omega
      have HE : Hid (n = lv) := by show _ = _; rw [hsum.out, HLV.out, List.take_of_length_le (by omega)]
      go_wp2_with fail
      go_ret
      have e := HE.out
      subst e
      exact ⟨rfl, hb1⟩
end Go.Proofs.YtnenggkgfhgcnaaGreatDoor
