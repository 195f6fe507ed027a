/- The document's memory: its objects, by contracts. -/
import Derived.Test.YtnenggkgfhgcnaaGreatDoorMemRA
import Derived.Test.YtnenggkgfhgcnaaGreatDoorMemJ
namespace Go.Proofs.YtnenggkgfhgcnaaGreatDoor
open Go.RowKit

set_option maxHeartbeats 2000000 in
theorem fieldsOK_any (F : Nat → Int) (vs : List Nat) (ao : Option Addr) (cap : Nat) (l : List Int) (al : Option Addr) (cl : Nat) (hl : l.length ≤ 300000) (hu : U64 l) (hn : vs.length ≤ 300000) (w : World) (hR : RowV w (.slice ao vs.length cap) vs.length (objsV F vs)) (hL : RowV w (.slice al l.length cl) l.length (wordsV l)) :
    Calls Tryz.prog 25 #[.slice al l.length cl, .slice ao vs.length cap] w fun ev w' => ev = .returned (.bool (l.all (fieldR vs))) ∧ w' = w := by
  have HR := toHid hR
  have HL := toHid hL
  have HU := toHid hu
  clear hR hL hu
  go_enter Tryz.func25, Tryz.ntmps25
  go_wp2_with fail
  go_loopg [5] (l.length + 1) (fun gk v5 wr => ∃ k : Nat, gk = l.length + 1 - k ∧ k ≤ l.length ∧ v5 = .int .i64 (k : Int) ∧ wr = w ∧ Hid ((l.take k).all (fieldR vs) = true))
  case atStart => exact ⟨0, rfl, Nat.zero_le _, rfl, rfl, rfl⟩
  case round =>
    obtain ⟨k, hgk, hk, hv5, rfl, hal⟩ := hrel
    subst hv5
    have HG := toHid hgk
    clear hgk
    by_cases hlt : k < l.length
    · have hI : (k : Int) < (l.length : Int) := by omega
      have hI0 : (0 : Int) ≤ (k : Int) := by omega
      obtain ⟨x, hx⟩ : ∃ x, l[k]? = some x := ⟨_, List.getElem?_eq_getElem hlt⟩
      obtain ⟨_, _, e, _, f1⟩ := HL.out
      cases e
      obtain ⟨p1, o1, rfl, l1, g1⟩ := f1 (by omega)
      have r1 : wr.cell? ⟨p1, o1 + k, none⟩ = some (.int .u64 x) := g1 k _ (words_at hx)
      have hxu := HU.out x (List.mem_of_getElem? hx)
      have kh := fieldOK_any F vs ao cap x hxu.1 hxu.2 hn wr HR.out
      have HT : Hid ((l.take (k + 1)).all (fieldR vs) = fieldR vs x) := by
        show _ = _
        rw [List.take_add_one, hx, List.all_append, hal.out, Bool.true_and]
        simp
      have HF : Hid (fieldR vs x = false → l.all (fieldR vs) = false) := fun hf => by
        rw [List.all_eq_false]
        exact ⟨x, List.mem_of_getElem? hx, by rw [hf]; decide⟩
      clear f1 g1 hx hxu hal
      cases hfb : fieldR vs x with
      | true =>
        rw [hfb] at kh
        have HT2 : Hid ((l.take (k + 1)).all (fieldR vs) = true) := HT.out.trans hfb
        clear HT HF hfb
        go_wp2_with fail
        refine kh.mono ?_
        rintro ev w1 ⟨rfl, hq⟩
        rw [hq]
        clear hq w1 kh
        go_wp2_with fail
        go_roundg (l.length + 1 - (k + 1))
        case measure => have := HG.out; omega
        case rel => exact ⟨k + 1, rfl, by omega, by go_num, rfl, HT2⟩
      | false =>
        rw [hfb] at kh
        have HF2 := toHid (HF.out hfb)
        clear HT HF hfb
        go_wp2_with fail
        refine kh.mono ?_
        rintro ev w1 ⟨rfl, hq⟩
        rw [hq]
        clear hq w1 kh
        go_wp2_with fail
        go_ret
        rw [HF2.out]
        exact ⟨rfl, rfl⟩
    · obtain rfl : k = l.length := by omega
      go_wp2_with fail
      go_ret
      rw [List.take_length] at hal
      rw [hal.out]
      exact ⟨rfl, rfl⟩

/-- What the document asks of a header. -/
def G0 (F : Nat → Int) (f : Nat) : Bool := decide (F f / 16384 % 2 = 0)
theorem objsV_snoc (F : Nat → Int) (vs : List Nat) (f : Nat) : objsV F (vs ++ [f]) = objsV F vs ++ objV F f := by simp [objsV]
theorem objV_one (F : Nat → Int) (f : Nat) : ∀ u ∈ objV F f, u.oneCell' = true := by
  intro u hu
  simp [objV] at hu
  rcases hu with rfl | rfl | rfl | rfl <;> rfl
set_option maxHeartbeats 8000000 in
set_option maxRecDepth 100000 in
theorem objects_any (p o b ob nW cW t f0 : Nat) (F : Nat → Int) (w : World) (c3 : w.cell? ⟨p, o + 3, none⟩ = some (.slice (some ⟨b, ob, none⟩) nW cW)) (hw : ∀ i, i < nW → w.cell? ⟨b, ob + i, none⟩ = some (.int .u64 (F i))) (hr : ∀ i, i < nW → 0 ≤ F i ∧ F i < 18446744073709551616) (ht : t ≤ nW) (hn : nW ≤ 300000) (hf0 : f0 ≤ 300000) :
    Calls Tryz.prog 52 #[.pointer (some ⟨p, o, none⟩), .int .i64 (f0 : Int), .int .i64 (t : Int)] w fun ev w' => Below w.heap.size w w' ∧ ((∃ l ao cap, walkP F (G0 F) (t - f0) f0 t = some l ∧ ev = .returned (.tuple #[.slice ao l.length cap, .bool true]) ∧ w'.ownsRow w.heap.size 45 4 (.slice ao l.length cap) l.length (objsV F l)) ∨ (walkP F (G0 F) (t - f0) f0 t = none ∧ ev = .returned (.tuple #[.slice none 0 0, .bool false]))) := by
  have HW := toHid hw
  have HR := toHid hr
  clear hw hr
  go_enter Tryz.func52, Tryz.ntmps52
  go_wp2_with fail
  go_loopg [1, 8] (t + 1) (fun gk v1 v8 wr => ∃ (f n : Nat) (vs : List Nat) (ao : Option Addr) (ca : Nat), gk = t + f0 + 1 - f ∧ v1 = .int .i64 (f : Int) ∧ v8 = .slice ao vs.length ca ∧ (f = f0 ∨ f ≤ t) ∧ vs.length + f0 ≤ f ∧ Hid (t - f ≤ n) ∧ Below w.heap.size w wr ∧ Hid (wr.ownsRow w.heap.size 45 4 (.slice ao vs.length ca) vs.length (objsV F vs)) ∧ Hid (walkP F (G0 F) (t - f0) f0 t = (walkP F (G0 F) n f t).map (vs ++ ·)))
  case atStart => exact ⟨f0, t - f0, [], none, 0, by omega, rfl, rfl, .inl rfl, by simp, Nat.le_refl _, Below.refl _ _, ⟨rfl, .inl ⟨rfl, rfl⟩⟩, by show _ = _; simp⟩
  case round =>
    obtain ⟨f, n, vs, ao, ca, hgk, hv1, hv8, hft, hvl, hnn, hb, hO, hWk⟩ := hrel
    subst hv1 hv8
    have HG := toHid hgk
    clear hgk
    have lp := lt_of_cell c3
    have d3 := (hb.cell (p := ⟨p, o + 3, none⟩) lp).trans c3
    by_cases hlt : f < t
    · have hI1 : (f : Int) < (t : Int) := by omega
      have hI0 : (0 : Int) ≤ (f : Int) := by omega
      have hI2 : (f : Int) < (nW : Int) := by omega
      obtain ⟨x, hxe⟩ : ∃ x, x = F f := ⟨_, rfl⟩
      have c0' := HW.out f (by omega)
      have c0 := (hb.cell (p := ⟨b, ob + f, none⟩) (lt_of_cell c0')).trans c0'
      have hx := HR.out f (by omega)
      rw [← hxe] at c0 hx
      have HX := toHid hxe
      clear hxe c0'
      cases hh : headB x with
      | false =>
        have HN : Hid (walkP F (G0 F) (t - f0) f0 t = none) := by show _ = _; rw [hWk.out, walkP_fail hnn.out hlt (by rw [← HX.out, hh]; rfl)]; rfl
        have kt := headOf_no x hx.1 hx.2 (by unfold headB at hh; simpa using hh) wr
        clear hh
        go_wp2_with fail
        refine kt.mono ?_
        rintro ev w1 ⟨rfl, hq⟩
        rw [hq]
        clear hq w1 kt
        go_wp2_with fail
        go_ret2
        exact ⟨hb, .inr ⟨HN.out, rfl⟩⟩
      | true =>
        obtain ⟨hd0, hd1, hd2⟩ : x % 4 = 3 ∧ x / 32768 % 2 = 0 ∧ x / 65536 ≤ 4096 := by unfold headB at hh; simpa using hh
        have kt := headOf_ok x hx.1 hx.2 hd0 hd1 hd2 wr
        obtain ⟨s, hs⟩ : ∃ s : Nat, (s : Int) = x / 65536 := ⟨(x / 65536).toNat, by omega⟩
        have HS : Hid (szN (F f) = s) := by show _ = _; rw [← HX.out]; unfold szN; omega
        have HH : Hid (headB (F f) = true) := by show _ = _; rw [← HX.out]; exact hh
        have HV : Hid (objV F f = [.int .i64 (f : Int), .int .i64 (x / 4 % 256), .int .i64 (x / 1024 % 16), .int .i64 (s : Int)]) := by show _ = _; unfold objV; rw [← HX.out, hs]
        have HM : Hid (G0 F f = decide (x / 16384 % 2 = 0)) := by show _ = _; unfold G0; rw [← HX.out]
        rw [← hs] at kt
        have hs1 : s ≤ 4096 := by omega
        clear hs hd0 hd1 hd2 hh
        generalize x / 4 % 256 = k1 at *
        generalize x / 1024 % 16 = k2 at *
        generalize x / 16384 % 2 = k3 at *
        by_cases hm : k3 = 0
        · subst hm
          by_cases hend : f + 1 + s ≤ t
          · have hend1 : ¬ (f : Int) + 1 + (s : Int) > (t : Int) := by omega
            obtain ⟨n', hn', hw'⟩ := walkP_next (G := G0 F) hnn.out hlt (by rw [HH.out, HS.out, decide_eq_true hend, HM.out]; rfl)
            rw [HS.out] at hn' hw'
            have HN' := toHid hn'
            have HW' : Hid (walkP F (G0 F) (t - f0) f0 t = (walkP F (G0 F) n' (f + 1 + s) t).map ((vs ++ [f]) ++ ·)) := by
              show _ = _
              rw [hWk.out, hw', Option.map_map]
              congr 1
              funext l
              simp
            clear hn' hw'
            obtain ⟨i0, hi0, hz0, hz1, hz2⟩ := infoObj
            have hvl2 : vs.length ≤ 300000 := by omega
            go_wp2_with (first | (at_builtin; refine wpList_append_lies _ rfl _ _ _ rfl w.heap.size 45 i0 (.agg #[.int .i64 0, .int .i64 0, .int .i64 0, .int .i64 0]) 4 32 Tryz.underlying42 hi0 hz0 hz1 hz2 rfl (by decide) (.slice ao vs.length ca) vs.length (objsV F vs) rfl (hO.out.alloc _) ⟨wr.heap.size, 0, none⟩ 1 1 [.int .i64 (f : Int), .int .i64 k1, .int .i64 k2, .int .i64 (s : Int)] rfl rfl (World.news_of_block (cs := #[.int .i64 (f : Int), .int .i64 k1, .int .i64 k2, .int .i64 (s : Int)]) (t := 45) (heap_alloc_new _ _)) (by rw [← HV.out]; exact objV_one F f) (by decide) (by unfold maxLen; omega) (by omega) (by have := hb.size; simp; omega) _ rfl ?_; intro g' cap' w2 hown2 hgrow2 hat2 hlt2) | (go_at_call 80; refine kt.mono ?_; rintro ev w1 ⟨rfl, hq⟩; rw [hq]; clear hq w1))
            have HO2 : Hid (w2.ownsRow w.heap.size 45 4 (.slice (some ⟨g', 0, none⟩) (vs ++ [f]).length cap') (vs ++ [f]).length (objsV F (vs ++ [f]))) := by
              show World.ownsRow _ _ _ _ _ _ _
              rw [objsV_snoc, HV.out, List.length_append]
              exact hown2
            have hb2 : Below w.heap.size w w2 := (hb.alloc hb.size _).grown hgrow2 (by have := hb.size; simp; omega) (fun k hk => (own_lt2 hO.out k hk).1)
            clear hown2 hgrow2 hat2 hlt2
            go_roundg (t + f0 + 1 - (f + 1 + s))
            case measure => have := HG.out; omega
            case rel => exact ⟨f + 1 + s, n', vs ++ [f], some ⟨g', 0, none⟩, cap', rfl, by go_num, by rw [List.length_append]; rfl, .inr hend, by rw [List.length_append]; simp; omega, HN'.out, hb2, HO2, HW'⟩
          · have hend1 : (f : Int) + 1 + (s : Int) > (t : Int) := by omega
            have HN : Hid (walkP F (G0 F) (t - f0) f0 t = none) := by show _ = _; rw [hWk.out, walkP_fail hnn.out hlt (by rw [HS.out, decide_eq_false hend, Bool.false_and, Bool.and_false])]; rfl
            go_wp2_with fail
            refine kt.mono ?_
            rintro ev w1 ⟨rfl, hq⟩
            rw [hq]
            clear hq w1 kt
            go_wp2_with fail
            go_ret2
            exact ⟨hb, .inr ⟨HN.out, rfl⟩⟩
        · have hz : (k3 != 0) = true := by rw [bne_iff_ne]; exact hm
          have HN : Hid (walkP F (G0 F) (t - f0) f0 t = none) := by show _ = _; rw [hWk.out, walkP_fail hnn.out hlt (by rw [HM.out, decide_eq_false hm, Bool.and_false, Bool.and_false])]; rfl
          go_wp2_with fail
          refine kt.mono ?_
          rintro ev w1 ⟨rfl, hq⟩
          rw [hq]
          clear hq w1 kt
          go_wp2_with fail
          go_ret2
          exact ⟨hb, .inr ⟨HN.out, rfl⟩⟩
    · have hI1 : ¬ (f : Int) < (t : Int) := by omega
      have HN : Hid (walkP F (G0 F) (t - f0) f0 t = some vs) := by show _ = _; rw [hWk.out, walkP_done hlt]; simp
      go_wp2_with fail
      go_ret2
      exact ⟨hb, .inl ⟨vs, HN.out, ao, ca, rfl, hO.out⟩⟩
end Go.Proofs.YtnenggkgfhgcnaaGreatDoor

/- The document's memory: all its objects, by a contract. -/
namespace Go.Proofs.YtnenggkgfhgcnaaGreatDoor
open Go.RowKit

/-- What All answers. -/
def AllPost (F : Nat → Int) (n0 n1 m0 m1 : Nat) (w : World) (ev : Ending) (w' : World) : Prop := Below w.heap.size w w' ∧
  ((∃ l1 l2 ao cap, walkP F (G0 F) (n1 - n0) n0 n1 = some l1 ∧ walkP F (G0 F) (m1 - m0) m0 m1 = some l2 ∧ ev = .returned (.tuple #[.slice ao (l1.length + l2.length) cap, .bool true]) ∧ w'.ownsRow w.heap.size 45 4 (.slice ao (l1.length + l2.length) cap) (l1.length + l2.length) (objsV F (l1 ++ l2))) ∨
   ((walkP F (G0 F) (n1 - n0) n0 n1 = none ∨ walkP F (G0 F) (m1 - m0) m0 m1 = none) ∧ ∃ ao n cap, ev = .returned (.tuple #[.slice ao n cap, .bool false])))
theorem objsV_app (F : Nat → Int) (a b : List Nat) : objsV F (a ++ b) = objsV F a ++ objsV F b := by simp [objsV]
theorem objsV_one (F : Nat → Int) (vs : List Nat) : ∀ u ∈ objsV F vs, u.oneCell' = true := fun u hu => by
  obtain ⟨f, _, h⟩ := List.mem_flatMap.1 hu
  exact objV_one F f u h
theorem walkP_len {F : Nat → Int} {G : Nat → Bool} : ∀ {n f t : Nat} {l : List Nat}, walkP F G n f t = some l → l.length ≤ n
  | 0, f, t, l, h => by unfold walkP at h; cases h; simp
  | n + 1, f, t, l, h => by
    unfold walkP at h
    split at h
    · split at h
      · obtain ⟨l', h', rfl⟩ := Option.map_eq_some_iff.1 h
        have := walkP_len h'
        simp
        omega
      · cases h
    · cases h; simp
theorem wpList_append_rows {P : Program} {w : World} {ops : Array Oper} {rest : List Oper} {o : Oper} {a : Act} {Q : Exit → Act → World → Prop} (hgd : o.guard = none) (s x : Operand) (t : TypeId)
    (ho : o.op = .call { callee := .builtin .append, args := #[s, x], argTypes := #[t, t] })
    (base base2 : Nat) (e : TypeId) (i : TypeInfo) (z : Value) (size bytes : Nat) (ht : P.underlying t = some (.slice e)) (hi : P.info? e = some i) (hz : i.zero = some z)
    (hsize : i.size = size) (hby : i.bytes = bytes) (hzs : z.cells.size = size) (hsz : 0 < size)
    (v : Value) (n : Nat) (xs : List Value) (hs : a.eval s = v) (hown : w.ownsRow base e size v n xs)
    (v2 : Value) (m : Nat) (ys : List Value) (hx : a.eval x = v2) (hown2 : w.ownsRow base2 e size v2 m ys) (h1 : ∀ u ∈ ys, u.oneCell' = true)
    (h63 : n + m ≤ maxLen) (hbytes : (n + m) * bytes ≤ 140737488355328) (hbase : base ≤ w.heap.size)
    (h : ∀ ao cap w', w'.ownsRow base e size (.slice ao (n + m) cap) (n + m) (xs ++ ys) → Below base w w' → wpList P ops Q rest (a.put o.dst (.slice ao (n + m) cap)) w') : wpList P ops Q (o :: rest) a w := by
  rcases hown2.2 with ⟨rfl, rfl⟩ | ⟨g, cap, cur, rfl, hgb, hg, hc, _, hs2, ht2⟩
  · obtain rfl : ys = [] := List.eq_nil_of_length_eq_zero (by have := hown2.1; omega)
    refine wpList_append_own_none hgd s x t ho base e i size ht hi v n xs hs hown hx ?_
    obtain ⟨ao, cap, rfl⟩ := own_slice hown
    have := h ao cap w (by simpa using hown) (Below.refl _ _)
    simpa using this
  · have hr := (rowV_own hown2).src
    refine wpList_append_own w hgd s x t ho base e i z size bytes ht hi hz hsize hby hzs hsz v n xs hs hown ⟨g, 0, none⟩ m cap ys hx hown2.1 (fun j u hj => ?_) h1 h63 hbytes hbase (fun v' w' h2 h3 _ => ?_)
    · have hm : 0 < m := by
        rcases Nat.eq_zero_or_pos m with h | h
        · subst h; have := (List.getElem?_eq_some_iff.1 hj).1; have := hown2.1; omega
        · exact h
      obtain ⟨ad, e1, _, e3⟩ := hr hm
      cases e1
      exact e3 j u hj
    · obtain ⟨ao, cap', rfl⟩ := own_slice h2
      exact h ao cap' w' h2 ((Below.refl _ _).grown h3 hbase (fun k hk => (own_lt2 hown k hk).1))
set_option maxHeartbeats 8000000 in
set_option maxRecDepth 100000 in
theorem all_any (p o b ob nW nC cW : Nat) (h ol c u t ot : Int) (vR vK vI vC : Value) (n0 n1 m0 m1 : Nat) (F : Nat → Int) (w : World) (M : MemO p o h ol c (.slice (some ⟨b, ob, none⟩) nW cW) u t ot vR vK vI vC w) (Ft : Fits h ol c nW nC u t ot) (P : Parts h u t ot n0 n1 m0 m1) (hw : ∀ i, i < nW → w.cell? ⟨b, ob + i, none⟩ = some (.int .u64 (F i))) (hr : ∀ i, i < nW → 0 ≤ F i ∧ F i < 18446744073709551616) :
    Calls Tryz.prog 24 #[.pointer (some ⟨p, o, none⟩)] w fun ev w' => AllPost F n0 n1 m0 m1 w ev w' := by
  have hle := P.le Ft
  have hnum := Ft.nums
  unfold numsOK at hnum
  have hwl := Ft.w
  have hn : nW ≤ 300000 := by omega
  have q0 := P.n0
  have q1 := P.n1
  have q2 := P.m0
  have q3 := P.m1
  have t0 := Ft.t0
  have o0 := Ft.o0
  have e1 : IntKind.i64.wrap (u * h) = (n0 : Int) := by rw [← q0, wrapI _ (by omega) (by omega)]
  have e2 : IntKind.i64.wrap ((n0 : Int) + t) = (n1 : Int) := by rw [wrapI _ (by omega) (by omega)]; omega
  have e3 : IntKind.i64.wrap (2 * h) = (m0 : Int) := by rw [← q2, wrapI _ (by omega) (by omega)]
  have e4 : IntKind.i64.wrap ((m0 : Int) + ot) = (m1 : Int) := by rw [wrapI _ (by omega) (by omega)]; omega
  have lp := lt_of_cell M.c0
  have HM := toHid M
  have hcells : ∀ W, Below w.heap.size w W → ∀ i, i < nW → W.cell? ⟨b, ob + i, none⟩ = some (.int .u64 (F i)) := fun W hW i hi => (hW.cell (p := ⟨b, ob + i, none⟩) (lt_of_cell (hw i hi))).trans (hw i hi)
  have k1 : Hid (∀ W, Below w.heap.size w W → Calls Tryz.prog 52 #[.pointer (some ⟨p, o, none⟩), .int .i64 (n0 : Int), .int .i64 (n1 : Int)] W fun ev w' => Below W.heap.size W w' ∧ ((∃ l ao cap, walkP F (G0 F) (n1 - n0) n0 n1 = some l ∧ ev = .returned (.tuple #[.slice ao l.length cap, .bool true]) ∧ w'.ownsRow W.heap.size 45 4 (.slice ao l.length cap) l.length (objsV F l)) ∨ (walkP F (G0 F) (n1 - n0) n0 n1 = none ∧ ev = .returned (.tuple #[.slice none 0 0, .bool false])))) := fun W hW => objects_any p o b ob nW cW n1 n0 F W (M.below hW lp).c3 (hcells W hW) hr hle.1 hn (by omega)
  have k2 : Hid (∀ W, Below w.heap.size w W → Calls Tryz.prog 52 #[.pointer (some ⟨p, o, none⟩), .int .i64 (m0 : Int), .int .i64 (m1 : Int)] W fun ev w' => Below W.heap.size W w' ∧ ((∃ l ao cap, walkP F (G0 F) (m1 - m0) m0 m1 = some l ∧ ev = .returned (.tuple #[.slice ao l.length cap, .bool true]) ∧ w'.ownsRow W.heap.size 45 4 (.slice ao l.length cap) l.length (objsV F l)) ∨ (walkP F (G0 F) (m1 - m0) m0 m1 = none ∧ ev = .returned (.tuple #[.slice none 0 0, .bool false])))) := fun W hW => objects_any p o b ob nW cW m1 m0 F W (M.below hW lp).c3 (hcells W hW) hr hle.2 hn (by omega)
  have hwl1 : ∀ l, walkP F (G0 F) (n1 - n0) n0 n1 = some l → l.length ≤ 300000 := fun l h => by have := walkP_len h; omega
  have hwl2 : ∀ l, walkP F (G0 F) (m1 - m0) m0 m1 = some l → l.length ≤ 300000 := fun l h => by have := walkP_len h; omega
  have L1 := toHid hwl1
  have L2 := toHid hwl2
  unfold AllPost
  generalize walkP F (G0 F) (n1 - n0) n0 n1 = r1 at *
  generalize walkP F (G0 F) (m1 - m0) m0 m1 = r2 at *
  have HF : Hid (∀ W, Below w.heap.size w W → W.cell? ⟨p, o + 4, none⟩ = some (.int .i64 u) ∧ W.cell? ⟨p, o, none⟩ = some (.int .i64 h) ∧ W.cell? ⟨p, o + 5, none⟩ = some (.int .i64 t) ∧ W.cell? ⟨p, o + 6, none⟩ = some (.int .i64 ot)) := fun W hW => ⟨(M.below hW lp).c4, (M.below hW lp).c0, (M.below hW lp).c5, (M.below hW lp).c6⟩
  obtain ⟨c0, c1, c2, c3, c4, c5, c6, c7, c8, c9, c10⟩ := M
  clear hle hnum hwl q0 q1 q2 q3 t0 o0 hcells hw hr P Ft hwl1 hwl2 c1 c2 c3 c7 c8 c9 c10
  go_enter Tryz.func24, Tryz.ntmps24
  go_wp2_with fail
  go_region_held3 (fun W => W.cell? ⟨p, o + 4, none⟩ = some (.int .i64 u) ∧ W.cell? ⟨p, o, none⟩ = some (.int .i64 h) ∧ W.cell? ⟨p, o + 5, none⟩ = some (.int .i64 t) ∧ W.cell? ⟨p, o + 6, none⟩ = some (.int .i64 ot)) (first | go_keep | with_reducible exact HF.out _ hb1) ((go_at_call 52; refine (k1.out _ ((Below.refl _ _).drew)).mono ?_; rintro ev w1 ⟨hbx, hc⟩; have hb1 : Below w.heap.size w w1 := ((Below.refl _ _).drew).trans (hbx.mono (by simp)); obtain ⟨a1, s1, j1, b1, rfl, hP1⟩ : ∃ (a1 : Option Addr) (s1 j1 : Nat) (b1 : Bool), ev = .returned (.tuple #[.slice a1 s1 j1, .bool b1]) ∧ Hid (s1 ≤ 300000 ∧ ∃ x1, w1.ownsRow w.heap.size 45 4 (.slice a1 s1 j1) s1 x1 ∧ (∀ u ∈ x1, u.oneCell' = true) ∧ ((∃ l, r1 = some l ∧ b1 = true ∧ s1 = l.length ∧ x1 = objsV F l) ∨ (r1 = none ∧ b1 = false))) := (by rcases hc with ⟨l, ao, cap, e1, e2, e3⟩ | ⟨e1, e2⟩; exact ⟨ao, l.length, cap, true, e2, L1.out l e1, objsV F l, e3, objsV_one F l, .inl ⟨l, e1, rfl, rfl, rfl⟩⟩; exact ⟨none, 0, 0, false, e2, Nat.zero_le _, [], ⟨rfl, .inl ⟨rfl, rfl⟩⟩, (fun u hu => by cases hu), .inr ⟨e1, rfl⟩⟩); clear hbx hc))
  obtain ⟨d4, d0, d5, d6⟩ := HF.out w1 hb1
  have lp1 := lt_of_cell d0
  go_wp2_with fail
  go_region_held3 (fun W => W.cell? ⟨p, o + 4, none⟩ = some (.int .i64 u) ∧ W.cell? ⟨p, o, none⟩ = some (.int .i64 h) ∧ W.cell? ⟨p, o + 5, none⟩ = some (.int .i64 t) ∧ W.cell? ⟨p, o + 6, none⟩ = some (.int .i64 ot)) (first | go_keep | with_reducible exact HF.out _ hb2) ((go_at_call 52; refine (k2.out _ (hb1.drew)).mono ?_; rintro ev w2 ⟨hbx, hc⟩; have hb12 : Below w1.heap.size w1 w2 := ((Below.refl _ _).drew).trans (hbx.mono (by simp)); have hb2 : Below w.heap.size w w2 := hb1.trans (hb12.mono hb1.size); obtain ⟨a2, s2, j2, b2, rfl, hP2⟩ : ∃ (a2 : Option Addr) (s2 j2 : Nat) (b2 : Bool), ev = .returned (.tuple #[.slice a2 s2 j2, .bool b2]) ∧ Hid (s2 ≤ 300000 ∧ ∃ x2, w2.ownsRow w1.heap.size 45 4 (.slice a2 s2 j2) s2 x2 ∧ (∀ u ∈ x2, u.oneCell' = true) ∧ ((∃ l, r2 = some l ∧ b2 = true ∧ s2 = l.length ∧ x2 = objsV F l) ∨ (r2 = none ∧ b2 = false))) := (by rcases hc with ⟨l, ao, cap, e1, e2, e3⟩ | ⟨e1, e2⟩; exact ⟨ao, l.length, cap, true, e2, L2.out l e1, objsV F l, e3, objsV_one F l, .inl ⟨l, e1, rfl, rfl, rfl⟩⟩; exact ⟨none, 0, 0, false, e2, Nat.zero_le _, [], ⟨rfl, .inl ⟨rfl, rfl⟩⟩, (fun u hu => by cases hu), .inr ⟨e1, rfl⟩⟩); clear hbx hc))
  obtain ⟨hs1, x1, hx1, _, hc1⟩ := hP1.out
  obtain ⟨hs2, x2, hx2, hy2, hc2⟩ := hP2.out
  have hx1' := ownsRow_far' hx1 (fun k hk => hb12.block k (own_lt2 hx1 k hk).2)
  have H1 := toHid hx1'
  have H2 := toHid hx2
  have HC1 := toHid hc1
  have HC2 := toHid hc2
  have HY2 := toHid hy2
  obtain ⟨i0, hi0, hz0, hz1, hz2⟩ := infoObj
  clear hP1 hP2 hx1 hx1' hx2 hc1 hc2 hy2 d4 d0 d5 d6 c0 c4 c5 c6
  cases b1
  · go_wp2_with (at_builtin; refine wpList_append_rows rfl _ _ _ rfl w.heap.size w1.heap.size 45 i0 (.agg #[.int .i64 0, .int .i64 0, .int .i64 0, .int .i64 0]) 4 32 Tryz.underlying42 hi0 hz0 hz1 hz2 rfl (by decide) _ s1 x1 rfl H1.out _ s2 x2 rfl H2.out HY2.out (by unfold maxLen; omega) (by omega) hb2.size ?_; intro ao3 cap3 w3 hown3 hb3)
    go_ret2
    refine ⟨hb2.trans hb3, .inr ⟨?_, _, _, _, rfl⟩⟩
    rcases HC1.out with ⟨_, _, e, _⟩ | ⟨e, _⟩
    · cases e
    · exact .inl e
  · cases b2
    · go_wp2_with (at_builtin; refine wpList_append_rows rfl _ _ _ rfl w.heap.size w1.heap.size 45 i0 (.agg #[.int .i64 0, .int .i64 0, .int .i64 0, .int .i64 0]) 4 32 Tryz.underlying42 hi0 hz0 hz1 hz2 rfl (by decide) _ s1 x1 rfl H1.out _ s2 x2 rfl H2.out HY2.out (by unfold maxLen; omega) (by omega) hb2.size ?_; intro ao3 cap3 w3 hown3 hb3)
      go_ret2
      refine ⟨hb2.trans hb3, .inr ⟨?_, _, _, _, rfl⟩⟩
      rcases HC2.out with ⟨_, _, e, _⟩ | ⟨e, _⟩
      · cases e
      · exact .inr e
    · go_wp2_with (at_builtin; refine wpList_append_rows rfl _ _ _ rfl w.heap.size w1.heap.size 45 i0 (.agg #[.int .i64 0, .int .i64 0, .int .i64 0, .int .i64 0]) 4 32 Tryz.underlying42 hi0 hz0 hz1 hz2 rfl (by decide) _ s1 x1 rfl H1.out _ s2 x2 rfl H2.out HY2.out (by unfold maxLen; omega) (by omega) hb2.size ?_; intro ao3 cap3 w3 hown3 hb3)
      go_ret2
      rcases HC1.out with ⟨l1, e1, _, rfl, rfl⟩ | ⟨_, e⟩
      · rcases HC2.out with ⟨l2, e2, _, rfl, rfl⟩ | ⟨_, e⟩
        · rw [← objsV_app] at hown3
          exact ⟨hb2.trans hb3, .inl ⟨l1, e1, l2, e2, ao3, cap3, rfl, hown3⟩⟩
        · cases e
      · cases e
end Go.Proofs.YtnenggkgfhgcnaaGreatDoor
