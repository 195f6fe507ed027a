/- The document's memory: its objects, by contracts. -/
import Derived.Test.YtopcpeemibmgbaaDoorMemRA
import Derived.Test.YtopcpeemibmgbaaDoorMemJ
namespace Go.Proofs.YtopcpeemibmgbaaDoor
open Go.RowKit

set_option maxHeartbeats 2000000 in
theorem fieldsOK_any (F : Nat → Int) (vs : List Nat) (ao : Option Addr) (cap : Nat) (l : List Int) (al : Option Addr) (cl : Nat) (hl : l.length ≤ 300000) (hu : U64 l) (hn : vs.length ≤ 300000) (w : World) (hR : RowV w (.slice ao vs.length cap) vs.length (objsV F vs)) (hL : RowV w (.slice al l.length cl) l.length (wordsV l)) :
    Calls Tryd.prog 17 #[.slice al l.length cl, .slice ao vs.length cap] w fun ev w' => ev = .returned (.bool (l.all (fieldR vs))) ∧ w' = w := by
  have HR := toHid hR
  have HL := toHid hL
  have HU := toHid hu
  clear hR hL hu
  go_enter Tryd.func17, Tryd.ntmps17
  go_wp2_with fail
  go_loopg [5] (l.length + 1) (fun gk v5 wr => ∃ k : Nat, gk = l.length + 1 - k ∧ k ≤ l.length ∧ v5 = .int .i64 (k : Int) ∧ wr = w ∧ Hid ((l.take k).all (fieldR vs) = true))
  case atStart => exact ⟨0, rfl, Nat.zero_le _, rfl, rfl, rfl⟩
  case round =>
    obtain ⟨k, hgk, hk, hv5, rfl, hal⟩ := hrel
    subst hv5
    have HG := toHid hgk
    clear hgk
    by_cases hlt : k < l.length
    · have hI : (k : Int) < (l.length : Int) := by omega
      have hI0 : (0 : Int) ≤ (k : Int) := by omega
      obtain ⟨x, hx⟩ : ∃ x, l[k]? = some x := ⟨_, List.getElem?_eq_getElem hlt⟩
      obtain ⟨_, _, e, _, f1⟩ := HL.out
      cases e
      obtain ⟨p1, o1, rfl, l1, g1⟩ := f1 (by omega)
      have r1 : wr.cell? ⟨p1, o1 + k, none⟩ = some (.int .u64 x) := g1 k _ (words_at hx)
      have hxu := HU.out x (List.mem_of_getElem? hx)
      have kh := fieldOK_any F vs ao cap x hxu.1 hxu.2 hn wr HR.out
      have HT : Hid ((l.take (k + 1)).all (fieldR vs) = fieldR vs x) := by
        show _ = _
        rw [List.take_add_one, hx, List.all_append, hal.out, Bool.true_and]
        simp
      have HF : Hid (fieldR vs x = false → l.all (fieldR vs) = false) := fun hf => by
        rw [List.all_eq_false]
        exact ⟨x, List.mem_of_getElem? hx, by rw [hf]; decide⟩
      clear f1 g1 hx hxu hal
      cases hfb : fieldR vs x with
      | true =>
        rw [hfb] at kh
        have HT2 : Hid ((l.take (k + 1)).all (fieldR vs) = true) := HT.out.trans hfb
        clear HT HF hfb
        go_wp2_with fail
        refine kh.mono ?_
        rintro ev w1 ⟨rfl, hq⟩
        rw [hq]
        clear hq w1 kh
        go_wp2_with fail
        go_roundg (l.length + 1 - (k + 1))
        case measure => have := HG.out; omega
        case rel => exact ⟨k + 1, rfl, by omega, by go_num, rfl, HT2⟩
      | false =>
        rw [hfb] at kh
        have HF2 := toHid (HF.out hfb)
        clear HT HF hfb
        go_wp2_with fail
        refine kh.mono ?_
        rintro ev w1 ⟨rfl, hq⟩
        rw [hq]
        clear hq w1 kh
        go_wp2_with fail
        go_ret
        rw [HF2.out]
        exact ⟨rfl, rfl⟩
    · obtain rfl : k = l.length := by omega
      go_wp2_with fail
      go_ret
      rw [List.take_length] at hal
      rw [hal.out]
      exact ⟨rfl, rfl⟩

/-- What the document asks of a header. -/
def G0 (F : Nat → Int) (f : Nat) : Bool := decide (F f / 16384 % 2 = 0)
theorem objsV_snoc (F : Nat → Int) (vs : List Nat) (f : Nat) : objsV F (vs ++ [f]) = objsV F vs ++ objV F f := by simp [objsV]
theorem objV_one (F : Nat → Int) (f : Nat) : ∀ u ∈ objV F f, u.oneCell' = true := by
  intro u hu
  simp [objV] at hu
  rcases hu with rfl | rfl | rfl | rfl <;> rfl
set_option maxHeartbeats 8000000 in
set_option maxRecDepth 100000 in
theorem objects_any (p o b ob nW cW t f0 : Nat) (F : Nat → Int) (w : World) (c3 : w.cell? ⟨p, o + 3, none⟩ = some (.slice (some ⟨b, ob, none⟩) nW cW)) (hw : ∀ i, i < nW → w.cell? ⟨b, ob + i, none⟩ = some (.int .u64 (F i))) (hr : ∀ i, i < nW → 0 ≤ F i ∧ F i < 18446744073709551616) (ht : t ≤ nW) (hn : nW ≤ 300000) (hf0 : f0 ≤ 300000) :
    Calls Tryd.prog 24 #[.pointer (some ⟨p, o, none⟩), .int .i64 (f0 : Int), .int .i64 (t : Int)] w fun ev w' => Below w.heap.size w w' ∧ ((∃ l ao cap, walkP F (G0 F) (t - f0) f0 t = some l ∧ ev = .returned (.tuple #[.slice ao l.length cap, .bool true]) ∧ w'.ownsRow w.heap.size 35 4 (.slice ao l.length cap) l.length (objsV F l)) ∨ (walkP F (G0 F) (t - f0) f0 t = none ∧ ev = .returned (.tuple #[.slice none 0 0, .bool false]))) := by
  have HW := toHid hw
  have HR := toHid hr
  clear hw hr
  go_enter Tryd.func24, Tryd.ntmps24
  go_wp2_with fail
  go_loopg [1, 8] (t + 1) (fun gk v1 v8 wr => ∃ (f n : Nat) (vs : List Nat) (ao : Option Addr) (ca : Nat), gk = t + f0 + 1 - f ∧ v1 = .int .i64 (f : Int) ∧ v8 = .slice ao vs.length ca ∧ (f = f0 ∨ f ≤ t) ∧ vs.length + f0 ≤ f ∧ Hid (t - f ≤ n) ∧ Below w.heap.size w wr ∧ Hid (wr.ownsRow w.heap.size 35 4 (.slice ao vs.length ca) vs.length (objsV F vs)) ∧ Hid (walkP F (G0 F) (t - f0) f0 t = (walkP F (G0 F) n f t).map (vs ++ ·)))
  case atStart => exact ⟨f0, t - f0, [], none, 0, by omega, rfl, rfl, .inl rfl, by simp, Nat.le_refl _, Below.refl _ _, ⟨rfl, .inl ⟨rfl, rfl⟩⟩, by show _ = _; simp⟩
  case round =>
    obtain ⟨f, n, vs, ao, ca, hgk, hv1, hv8, hft, hvl, hnn, hb, hO, hWk⟩ := hrel
    subst hv1 hv8
    have HG := toHid hgk
    clear hgk
    have lp := lt_of_cell c3
    have d3 := (hb.cell (p := ⟨p, o + 3, none⟩) lp).trans c3
    by_cases hlt : f < t
    · have hI1 : (f : Int) < (t : Int) := by omega
      have hI0 : (0 : Int) ≤ (f : Int) := by omega
      have hI2 : (f : Int) < (nW : Int) := by omega
      obtain ⟨x, hxe⟩ : ∃ x, x = F f := ⟨_, rfl⟩
      have c0' := HW.out f (by omega)
      have c0 := (hb.cell (p := ⟨b, ob + f, none⟩) (lt_of_cell c0')).trans c0'
      have hx := HR.out f (by omega)
      rw [← hxe] at c0 hx
      have HX := toHid hxe
      clear hxe c0'
      cases hh : headB x with
      | false =>
        have HN : Hid (walkP F (G0 F) (t - f0) f0 t = none) := by show _ = _; rw [hWk.out, walkP_fail hnn.out hlt (by rw [← HX.out, hh]; rfl)]; rfl
        have kt := headOf_no x hx.1 hx.2 (by unfold headB at hh; simpa using hh) wr
        clear hh
        go_wp2_with fail
        refine kt.mono ?_
        rintro ev w1 ⟨rfl, hq⟩
        rw [hq]
        clear hq w1 kt
        go_wp2_with fail
        go_ret2
        exact ⟨hb, .inr ⟨HN.out, rfl⟩⟩
      | true =>
        obtain ⟨hd0, hd1, hd2⟩ : x % 4 = 3 ∧ x / 32768 % 2 = 0 ∧ x / 65536 ≤ 4096 := by unfold headB at hh; simpa using hh
        have kt := headOf_ok x hx.1 hx.2 hd0 hd1 hd2 wr
        obtain ⟨s, hs⟩ : ∃ s : Nat, (s : Int) = x / 65536 := ⟨(x / 65536).toNat, by omega⟩
        have HS : Hid (szN (F f) = s) := by show _ = _; rw [← HX.out]; unfold szN; omega
        have HH : Hid (headB (F f) = true) := by show _ = _; rw [← HX.out]; exact hh
        have HV : Hid (objV F f = [.int .i64 (f : Int), .int .i64 (x / 4 % 256), .int .i64 (x / 1024 % 16), .int .i64 (s : Int)]) := by show _ = _; unfold objV; rw [← HX.out, hs]
        have HM : Hid (G0 F f = decide (x / 16384 % 2 = 0)) := by show _ = _; unfold G0; rw [← HX.out]
        rw [← hs] at kt
        have hs1 : s ≤ 4096 := by omega
        clear hs hd0 hd1 hd2 hh
        generalize x / 4 % 256 = k1 at *
        generalize x / 1024 % 16 = k2 at *
        generalize x / 16384 % 2 = k3 at *
        by_cases hm : k3 = 0
        · subst hm
          by_cases hend : f + 1 + s ≤ t
          · have hend1 : ¬ (f : Int) + 1 + (s : Int) > (t : Int) := by omega
            obtain ⟨n', hn', hw'⟩ := walkP_next (G := G0 F) hnn.out hlt (by rw [HH.out, HS.out, decide_eq_true hend, HM.out]; rfl)
            rw [HS.out] at hn' hw'
            have HN' := toHid hn'
            have HW' : Hid (walkP F (G0 F) (t - f0) f0 t = (walkP F (G0 F) n' (f + 1 + s) t).map ((vs ++ [f]) ++ ·)) := by
              show _ = _
              rw [hWk.out, hw', Option.map_map]
              congr 1
              funext l
              simp
            clear hn' hw'
            obtain ⟨i0, hi0, hz0, hz1, hz2⟩ := infoObj
            have hvl2 : vs.length ≤ 300000 := by omega
            go_wp2_with (first | (at_builtin; refine wpList_append_lies _ rfl _ _ _ rfl w.heap.size 35 i0 (.agg #[.int .i64 0, .int .i64 0, .int .i64 0, .int .i64 0]) 4 32 Tryd.underlying32 hi0 hz0 hz1 hz2 rfl (by decide) (.slice ao vs.length ca) vs.length (objsV F vs) rfl (hO.out.alloc _) ⟨wr.heap.size, 0, none⟩ 1 1 [.int .i64 (f : Int), .int .i64 k1, .int .i64 k2, .int .i64 (s : Int)] rfl rfl (World.news_of_block (cs := #[.int .i64 (f : Int), .int .i64 k1, .int .i64 k2, .int .i64 (s : Int)]) (t := 35) (heap_alloc_new _ _)) (by rw [← HV.out]; exact objV_one F f) (by decide) (by unfold maxLen; omega) (by omega) (by have := hb.size; simp; omega) _ rfl ?_; intro g' cap' w2 hown2 hgrow2 hat2 hlt2) | (go_at_call 46; refine kt.mono ?_; rintro ev w1 ⟨rfl, hq⟩; rw [hq]; clear hq w1))
            have HO2 : Hid (w2.ownsRow w.heap.size 35 4 (.slice (some ⟨g', 0, none⟩) (vs ++ [f]).length cap') (vs ++ [f]).length (objsV F (vs ++ [f]))) := by
              show World.ownsRow _ _ _ _ _ _ _
              rw [objsV_snoc, HV.out, List.length_append]
              exact hown2
            have hb2 : Below w.heap.size w w2 := (hb.alloc hb.size _).grown hgrow2 (by have := hb.size; simp; omega) (fun k hk => (own_lt2 hO.out k hk).1)
            clear hown2 hgrow2 hat2 hlt2
            go_roundg (t + f0 + 1 - (f + 1 + s))
            case measure => have := HG.out; omega
            case rel => exact ⟨f + 1 + s, n', vs ++ [f], some ⟨g', 0, none⟩, cap', rfl, by go_num, by rw [List.length_append]; rfl, .inr hend, by rw [List.length_append]; simp; omega, HN'.out, hb2, HO2, HW'⟩
          · have hend1 : (f : Int) + 1 + (s : Int) > (t : Int) := by omega
            have HN : Hid (walkP F (G0 F) (t - f0) f0 t = none) := by show _ = _; rw [hWk.out, walkP_fail hnn.out hlt (by rw [HS.out, decide_eq_false hend, Bool.false_and, Bool.and_false])]; rfl
            go_wp2_with fail
            refine kt.mono ?_
            rintro ev w1 ⟨rfl, hq⟩
            rw [hq]
            clear hq w1 kt
            go_wp2_with fail
            go_ret2
            exact ⟨hb, .inr ⟨HN.out, rfl⟩⟩
        · have hz : (k3 != 0) = true := by rw [bne_iff_ne]; exact hm
          have HN : Hid (walkP F (G0 F) (t - f0) f0 t = none) := by show _ = _; rw [hWk.out, walkP_fail hnn.out hlt (by rw [HM.out, decide_eq_false hm, Bool.and_false, Bool.and_false])]; rfl
          go_wp2_with fail
          refine kt.mono ?_
          rintro ev w1 ⟨rfl, hq⟩
          rw [hq]
          clear hq w1 kt
          go_wp2_with fail
          go_ret2
          exact ⟨hb, .inr ⟨HN.out, rfl⟩⟩
    · have hI1 : ¬ (f : Int) < (t : Int) := by omega
      have HN : Hid (walkP F (G0 F) (t - f0) f0 t = some vs) := by show _ = _; rw [hWk.out, walkP_done hlt]; simp
      go_wp2_with fail
      go_ret2
      exact ⟨hb, .inl ⟨vs, HN.out, ao, ca, rfl, hO.out⟩⟩
end Go.Proofs.YtopcpeemibmgbaaDoor
