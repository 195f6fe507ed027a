/- The document's memory: all its objects, by a contract. -/
import Derived.Test.YtopcpeemibmgbaaDoorMemRB
namespace Go.Proofs.YtopcpeemibmgbaaDoor
open Go.RowKit

/-- What All answers. -/
def AllPost (F : Nat → Int) (n0 n1 m0 m1 : Nat) (w : World) (ev : Ending) (w' : World) : Prop := Below w.heap.size w w' ∧
  ((∃ l1 l2 ao cap, walkP F (G0 F) (n1 - n0) n0 n1 = some l1 ∧ walkP F (G0 F) (m1 - m0) m0 m1 = some l2 ∧ ev = .returned (.tuple #[.slice ao (l1.length + l2.length) cap, .bool true]) ∧ w'.ownsRow w.heap.size 35 4 (.slice ao (l1.length + l2.length) cap) (l1.length + l2.length) (objsV F (l1 ++ l2))) ∨
   ((walkP F (G0 F) (n1 - n0) n0 n1 = none ∨ walkP F (G0 F) (m1 - m0) m0 m1 = none) ∧ ∃ ao n cap, ev = .returned (.tuple #[.slice ao n cap, .bool false])))
theorem objsV_app (F : Nat → Int) (a b : List Nat) : objsV F (a ++ b) = objsV F a ++ objsV F b := by simp [objsV]
theorem objsV_one (F : Nat → Int) (vs : List Nat) : ∀ u ∈ objsV F vs, u.oneCell' = true := fun u hu => by
  obtain ⟨f, _, h⟩ := List.mem_flatMap.1 hu
  exact objV_one F f u h
theorem walkP_len {F : Nat → Int} {G : Nat → Bool} : ∀ {n f t : Nat} {l : List Nat}, walkP F G n f t = some l → l.length ≤ n
  | 0, f, t, l, h => by unfold walkP at h; cases h; simp
  | n + 1, f, t, l, h => by
    unfold walkP at h
    split at h
    · split at h
      · obtain ⟨l', h', rfl⟩ := Option.map_eq_some_iff.1 h
        have := walkP_len h'
        simp
        omega
      · cases h
    · cases h; simp
theorem wpList_append_rows {P : Program} {w : World} {ops : Array Oper} {rest : List Oper} {o : Oper} {a : Act} {Q : Exit → Act → World → Prop} (hgd : o.guard = none) (s x : Operand) (t : TypeId)
    (ho : o.op = .call { callee := .builtin .append, args := #[s, x], argTypes := #[t, t] })
    (base base2 : Nat) (e : TypeId) (i : TypeInfo) (z : Value) (size bytes : Nat) (ht : P.underlying t = some (.slice e)) (hi : P.info? e = some i) (hz : i.zero = some z)
    (hsize : i.size = size) (hby : i.bytes = bytes) (hzs : z.cells.size = size) (hsz : 0 < size)
    (v : Value) (n : Nat) (xs : List Value) (hs : a.eval s = v) (hown : w.ownsRow base e size v n xs)
    (v2 : Value) (m : Nat) (ys : List Value) (hx : a.eval x = v2) (hown2 : w.ownsRow base2 e size v2 m ys) (h1 : ∀ u ∈ ys, u.oneCell' = true)
    (h63 : n + m ≤ maxLen) (hbytes : (n + m) * bytes ≤ 140737488355328) (hbase : base ≤ w.heap.size)
    (h : ∀ ao cap w', w'.ownsRow base e size (.slice ao (n + m) cap) (n + m) (xs ++ ys) → Below base w w' → wpList P ops Q rest (a.put o.dst (.slice ao (n + m) cap)) w') : wpList P ops Q (o :: rest) a w := by
  rcases hown2.2 with ⟨rfl, rfl⟩ | ⟨g, cap, cur, rfl, hgb, hg, hc, _, hs2, ht2⟩
  · obtain rfl : ys = [] := List.eq_nil_of_length_eq_zero (by have := hown2.1; omega)
    refine wpList_append_own_none hgd s x t ho base e i size ht hi v n xs hs hown hx ?_
    obtain ⟨ao, cap, rfl⟩ := own_slice hown
    have := h ao cap w (by simpa using hown) (Below.refl _ _)
    simpa using this
  · have hr := (rowV_own hown2).src
    refine wpList_append_own w hgd s x t ho base e i z size bytes ht hi hz hsize hby hzs hsz v n xs hs hown ⟨g, 0, none⟩ m cap ys hx hown2.1 (fun j u hj => ?_) h1 h63 hbytes hbase (fun v' w' h2 h3 _ => ?_)
    · have hm : 0 < m := by
        rcases Nat.eq_zero_or_pos m with h | h
        · subst h; have := (List.getElem?_eq_some_iff.1 hj).1; have := hown2.1; omega
        · exact h
      obtain ⟨ad, e1, _, e3⟩ := hr hm
      cases e1
      exact e3 j u hj
    · obtain ⟨ao, cap', rfl⟩ := own_slice h2
      exact h ao cap' w' h2 ((Below.refl _ _).grown h3 hbase (fun k hk => (own_lt2 hown k hk).1))
set_option maxHeartbeats 8000000 in
set_option maxRecDepth 100000 in
theorem all_any (p o b ob nW nC cW : Nat) (h ol c u t ot : Int) (vR vK vI vC : Value) (n0 n1 m0 m1 : Nat) (F : Nat → Int) (w : World) (M : MemO p o h ol c (.slice (some ⟨b, ob, none⟩) nW cW) u t ot vR vK vI vC w) (Ft : Fits h ol c nW nC u t ot) (P : Parts h u t ot n0 n1 m0 m1) (hw : ∀ i, i < nW → w.cell? ⟨b, ob + i, none⟩ = some (.int .u64 (F i))) (hr : ∀ i, i < nW → 0 ≤ F i ∧ F i < 18446744073709551616) :
    Calls Tryd.prog 12 #[.pointer (some ⟨p, o, none⟩)] w fun ev w' => AllPost F n0 n1 m0 m1 w ev w' := by
  have hle := P.le Ft
  have hnum := Ft.nums
  unfold numsOK at hnum
  have hwl := Ft.w
  have hn : nW ≤ 300000 := by omega
  have q0 := P.n0
  have q1 := P.n1
  have q2 := P.m0
  have q3 := P.m1
  have t0 := Ft.t0
  have o0 := Ft.o0
  have e1 : IntKind.i64.wrap (u * h) = (n0 : Int) := by rw [← q0, wrapI _ (by omega) (by omega)]
  have e2 : IntKind.i64.wrap ((n0 : Int) + t) = (n1 : Int) := by rw [wrapI _ (by omega) (by omega)]; omega
  have e3 : IntKind.i64.wrap (2 * h) = (m0 : Int) := by rw [← q2, wrapI _ (by omega) (by omega)]
  have e4 : IntKind.i64.wrap ((m0 : Int) + ot) = (m1 : Int) := by rw [wrapI _ (by omega) (by omega)]; omega
  have lp := lt_of_cell M.c0
  have HM := toHid M
  have hcells : ∀ W, Below w.heap.size w W → ∀ i, i < nW → W.cell? ⟨b, ob + i, none⟩ = some (.int .u64 (F i)) := fun W hW i hi => (hW.cell (p := ⟨b, ob + i, none⟩) (lt_of_cell (hw i hi))).trans (hw i hi)
  have k1 : Hid (∀ W, Below w.heap.size w W → Calls Tryd.prog 24 #[.pointer (some ⟨p, o, none⟩), .int .i64 (n0 : Int), .int .i64 (n1 : Int)] W fun ev w' => Below W.heap.size W w' ∧ ((∃ l ao cap, walkP F (G0 F) (n1 - n0) n0 n1 = some l ∧ ev = .returned (.tuple #[.slice ao l.length cap, .bool true]) ∧ w'.ownsRow W.heap.size 35 4 (.slice ao l.length cap) l.length (objsV F l)) ∨ (walkP F (G0 F) (n1 - n0) n0 n1 = none ∧ ev = .returned (.tuple #[.slice none 0 0, .bool false])))) := fun W hW => objects_any p o b ob nW cW n1 n0 F W (M.below hW lp).c3 (hcells W hW) hr hle.1 hn (by omega)
  have k2 : Hid (∀ W, Below w.heap.size w W → Calls Tryd.prog 24 #[.pointer (some ⟨p, o, none⟩), .int .i64 (m0 : Int), .int .i64 (m1 : Int)] W fun ev w' => Below W.heap.size W w' ∧ ((∃ l ao cap, walkP F (G0 F) (m1 - m0) m0 m1 = some l ∧ ev = .returned (.tuple #[.slice ao l.length cap, .bool true]) ∧ w'.ownsRow W.heap.size 35 4 (.slice ao l.length cap) l.length (objsV F l)) ∨ (walkP F (G0 F) (m1 - m0) m0 m1 = none ∧ ev = .returned (.tuple #[.slice none 0 0, .bool false])))) := fun W hW => objects_any p o b ob nW cW m1 m0 F W (M.below hW lp).c3 (hcells W hW) hr hle.2 hn (by omega)
  have hwl1 : ∀ l, walkP F (G0 F) (n1 - n0) n0 n1 = some l → l.length ≤ 300000 := fun l h => by have := walkP_len h; omega
  have hwl2 : ∀ l, walkP F (G0 F) (m1 - m0) m0 m1 = some l → l.length ≤ 300000 := fun l h => by have := walkP_len h; omega
  have L1 := toHid hwl1
  have L2 := toHid hwl2
  unfold AllPost
  generalize walkP F (G0 F) (n1 - n0) n0 n1 = r1 at *
  generalize walkP F (G0 F) (m1 - m0) m0 m1 = r2 at *
  have HF : Hid (∀ W, Below w.heap.size w W → W.cell? ⟨p, o + 4, none⟩ = some (.int .i64 u) ∧ W.cell? ⟨p, o, none⟩ = some (.int .i64 h) ∧ W.cell? ⟨p, o + 5, none⟩ = some (.int .i64 t) ∧ W.cell? ⟨p, o + 6, none⟩ = some (.int .i64 ot)) := fun W hW => ⟨(M.below hW lp).c4, (M.below hW lp).c0, (M.below hW lp).c5, (M.below hW lp).c6⟩
  obtain ⟨c0, c1, c2, c3, c4, c5, c6, c7, c8, c9, c10⟩ := M
  clear hle hnum hwl q0 q1 q2 q3 t0 o0 hcells hw hr P Ft hwl1 hwl2 c1 c2 c3 c7 c8 c9 c10
  go_enter Tryd.func12, Tryd.ntmps12
  go_wp2_with fail
  go_region_held3 (fun W => W.cell? ⟨p, o + 4, none⟩ = some (.int .i64 u) ∧ W.cell? ⟨p, o, none⟩ = some (.int .i64 h) ∧ W.cell? ⟨p, o + 5, none⟩ = some (.int .i64 t) ∧ W.cell? ⟨p, o + 6, none⟩ = some (.int .i64 ot)) (first | go_keep | with_reducible exact HF.out _ hb1) ((go_at_call 24; refine (k1.out _ ((Below.refl _ _).drew)).mono ?_; rintro ev w1 ⟨hbx, hc⟩; have hb1 : Below w.heap.size w w1 := ((Below.refl _ _).drew).trans (hbx.mono (by simp)); obtain ⟨a1, s1, j1, b1, rfl, hP1⟩ : ∃ (a1 : Option Addr) (s1 j1 : Nat) (b1 : Bool), ev = .returned (.tuple #[.slice a1 s1 j1, .bool b1]) ∧ Hid (s1 ≤ 300000 ∧ ∃ x1, w1.ownsRow w.heap.size 35 4 (.slice a1 s1 j1) s1 x1 ∧ (∀ u ∈ x1, u.oneCell' = true) ∧ ((∃ l, r1 = some l ∧ b1 = true ∧ s1 = l.length ∧ x1 = objsV F l) ∨ (r1 = none ∧ b1 = false))) := (by rcases hc with ⟨l, ao, cap, e1, e2, e3⟩ | ⟨e1, e2⟩; exact ⟨ao, l.length, cap, true, e2, L1.out l e1, objsV F l, e3, objsV_one F l, .inl ⟨l, e1, rfl, rfl, rfl⟩⟩; exact ⟨none, 0, 0, false, e2, Nat.zero_le _, [], ⟨rfl, .inl ⟨rfl, rfl⟩⟩, (fun u hu => by cases hu), .inr ⟨e1, rfl⟩⟩); clear hbx hc))
  obtain ⟨d4, d0, d5, d6⟩ := HF.out w1 hb1
  have lp1 := lt_of_cell d0
  go_wp2_with fail
  go_region_held3 (fun W => W.cell? ⟨p, o + 4, none⟩ = some (.int .i64 u) ∧ W.cell? ⟨p, o, none⟩ = some (.int .i64 h) ∧ W.cell? ⟨p, o + 5, none⟩ = some (.int .i64 t) ∧ W.cell? ⟨p, o + 6, none⟩ = some (.int .i64 ot)) (first | go_keep | with_reducible exact HF.out _ hb2) ((go_at_call 24; refine (k2.out _ (hb1.drew)).mono ?_; rintro ev w2 ⟨hbx, hc⟩; have hb12 : Below w1.heap.size w1 w2 := ((Below.refl _ _).drew).trans (hbx.mono (by simp)); have hb2 : Below w.heap.size w w2 := hb1.trans (hb12.mono hb1.size); obtain ⟨a2, s2, j2, b2, rfl, hP2⟩ : ∃ (a2 : Option Addr) (s2 j2 : Nat) (b2 : Bool), ev = .returned (.tuple #[.slice a2 s2 j2, .bool b2]) ∧ Hid (s2 ≤ 300000 ∧ ∃ x2, w2.ownsRow w1.heap.size 35 4 (.slice a2 s2 j2) s2 x2 ∧ (∀ u ∈ x2, u.oneCell' = true) ∧ ((∃ l, r2 = some l ∧ b2 = true ∧ s2 = l.length ∧ x2 = objsV F l) ∨ (r2 = none ∧ b2 = false))) := (by rcases hc with ⟨l, ao, cap, e1, e2, e3⟩ | ⟨e1, e2⟩; exact ⟨ao, l.length, cap, true, e2, L2.out l e1, objsV F l, e3, objsV_one F l, .inl ⟨l, e1, rfl, rfl, rfl⟩⟩; exact ⟨none, 0, 0, false, e2, Nat.zero_le _, [], ⟨rfl, .inl ⟨rfl, rfl⟩⟩, (fun u hu => by cases hu), .inr ⟨e1, rfl⟩⟩); clear hbx hc))
  obtain ⟨hs1, x1, hx1, _, hc1⟩ := hP1.out
  obtain ⟨hs2, x2, hx2, hy2, hc2⟩ := hP2.out
  have hx1' := ownsRow_far' hx1 (fun k hk => hb12.block k (own_lt2 hx1 k hk).2)
  have H1 := toHid hx1'
  have H2 := toHid hx2
  have HC1 := toHid hc1
  have HC2 := toHid hc2
  have HY2 := toHid hy2
  obtain ⟨i0, hi0, hz0, hz1, hz2⟩ := infoObj
  clear hP1 hP2 hx1 hx1' hx2 hc1 hc2 hy2 d4 d0 d5 d6 c0 c4 c5 c6
  cases b1
  · go_wp2_with (at_builtin; refine wpList_append_rows rfl _ _ _ rfl w.heap.size w1.heap.size 35 i0 (.agg #[.int .i64 0, .int .i64 0, .int .i64 0, .int .i64 0]) 4 32 Tryd.underlying32 hi0 hz0 hz1 hz2 rfl (by decide) _ s1 x1 rfl H1.out _ s2 x2 rfl H2.out HY2.out (by unfold maxLen; omega) (by omega) hb2.size ?_; intro ao3 cap3 w3 hown3 hb3)
    go_ret2
    refine ⟨hb2.trans hb3, .inr ⟨?_, _, _, _, rfl⟩⟩
    rcases HC1.out with ⟨_, _, e, _⟩ | ⟨e, _⟩
    · cases e
    · exact .inl e
  · cases b2
    · go_wp2_with (at_builtin; refine wpList_append_rows rfl _ _ _ rfl w.heap.size w1.heap.size 35 i0 (.agg #[.int .i64 0, .int .i64 0, .int .i64 0, .int .i64 0]) 4 32 Tryd.underlying32 hi0 hz0 hz1 hz2 rfl (by decide) _ s1 x1 rfl H1.out _ s2 x2 rfl H2.out HY2.out (by unfold maxLen; omega) (by omega) hb2.size ?_; intro ao3 cap3 w3 hown3 hb3)
      go_ret2
      refine ⟨hb2.trans hb3, .inr ⟨?_, _, _, _, rfl⟩⟩
      rcases HC2.out with ⟨_, _, e, _⟩ | ⟨e, _⟩
      · cases e
      · exact .inr e
    · go_wp2_with (at_builtin; refine wpList_append_rows rfl _ _ _ rfl w.heap.size w1.heap.size 35 i0 (.agg #[.int .i64 0, .int .i64 0, .int .i64 0, .int .i64 0]) 4 32 Tryd.underlying32 hi0 hz0 hz1 hz2 rfl (by decide) _ s1 x1 rfl H1.out _ s2 x2 rfl H2.out HY2.out (by unfold maxLen; omega) (by omega) hb2.size ?_; intro ao3 cap3 w3 hown3 hb3)
      go_ret2
      rcases HC1.out with ⟨l1, e1, _, rfl, rfl⟩ | ⟨_, e⟩
      · rcases HC2.out with ⟨l2, e2, _, rfl, rfl⟩ | ⟨_, e⟩
        · rw [← objsV_app] at hown3
          exact ⟨hb2.trans hb3, .inl ⟨l1, e1, l2, e2, ao3, cap3, rfl, hown3⟩⟩
        · cases e
      · cases e
end Go.Proofs.YtopcpeemibmgbaaDoor
