/- Package code: shapes, by a walk: 44 entries laid into a map, one behind the other. -/
import Derived.Test.YtgpfjlejmcdpmaaDoorCodA
namespace Go.Proofs.YtgpfjlejmcdpmaaDoor
open Go.RowKit

set_option maxHeartbeats 16000000 in
set_option maxRecDepth 100000 in
theorem shapes_any (w : World) : Calls Tryd.prog 14 #[] w fun ev w' => ∃ bm, ev = .returned (.map (some bm)) ∧ w.heap.size ≤ bm ∧ w'.ownsMap Tryd.prog 9 shapeR bm 44 shapeD ∧ Below w.heap.size w w' := by
  have hmm := @run_makeMap Tryd.prog
  have e1 : ((w.alloc (.cells #[.int .i64 0, .int .i64 1, .int .i64 1, .int .i64 0, .int .i64 0, .bool false] 62)).alloc (.cells #[.int .i64 0, .int .i64 2, .int .i64 1, .int .i64 0, .int .i64 0, .bool false] 62)).heap.size = w.heap.size + 1 + 1 := by simp
  have ho0 := World.ownsMap_made ((w.alloc (.cells #[.int .i64 0, .int .i64 1, .int .i64 1, .int .i64 0, .int .i64 0, .bool false] 62)).alloc (.cells #[.int .i64 0, .int .i64 2, .int .i64 1, .int .i64 0, .int .i64 0, .bool false] 62)) Tryd.prog 9 shapeR
  rw [e1] at ho0
  have hB0 : Below w.heap.size w (((w.alloc (.cells #[.int .i64 0, .int .i64 1, .int .i64 1, .int .i64 0, .int .i64 0, .bool false] 62)).alloc (.cells #[.int .i64 0, .int .i64 2, .int .i64 1, .int .i64 0, .int .i64 0, .bool false] 62)).alloc (.map #[] 0)) := (((Below.refl _ _).alloc (Nat.le_refl _) _).alloc (by simp) _).alloc (by simp; omega) _
  have hq0 : (((w.alloc (.cells #[.int .i64 0, .int .i64 1, .int .i64 1, .int .i64 0, .int .i64 0, .bool false] 62)).alloc (.cells #[.int .i64 0, .int .i64 2, .int .i64 1, .int .i64 0, .int .i64 0, .bool false] 62)).alloc (.map #[] 0)).heap[w.heap.size]? = some (.cells #[.int .i64 0, .int .i64 1, .int .i64 1, .int .i64 0, .int .i64 0, .bool false] 62) := (heap_alloc_old _ _ (by simp; omega)).trans ((heap_alloc_old _ _ (by simp)).trans (heap_alloc_new w _))
  have hr0 : (((w.alloc (.cells #[.int .i64 0, .int .i64 1, .int .i64 1, .int .i64 0, .int .i64 0, .bool false] 62)).alloc (.cells #[.int .i64 0, .int .i64 2, .int .i64 1, .int .i64 0, .int .i64 0, .bool false] 62)).alloc (.map #[] 0)).heap[w.heap.size + 1]? = some (.cells #[.int .i64 0, .int .i64 2, .int .i64 1, .int .i64 0, .int .i64 0, .bool false] 62) := by
    refine (heap_alloc_old _ _ (by simp)).trans ?_
    have := heap_alloc_new (w.alloc (.cells #[.int .i64 0, .int .i64 1, .int .i64 1, .int .i64 0, .int .i64 0, .bool false] 62)) (.cells #[.int .i64 0, .int .i64 2, .int .i64 1, .int .i64 0, .int .i64 0, .bool false] 62)
    simpa using this
  obtain ⟨w1, run1, ho1, hg1⟩ := ho0.update (t := 54) (e := 62) shapeLaw Tryd.underlying54 (by unfold maxLen; omega) (key := .string ⟨#[99, 111, 110, 115, 116]⟩) (WideMaps.keyOf_string_mk Tryd.underlying9 (by unfold maxLen; decide)) (val := .agg #[.int .i64 1, .int .i64 0, .int .i64 1, .int .i64 0, .int .i64 0, .bool false]) (d := encS 1 0 1 0 0 false) (ps := []) rfl
  have hB1 := hB0.grown hg1 hB0.size (fun k hk => by cases hk; omega)
  have hq1 := (hg1.block w.heap.size (lt_of_heap hq0) (fun h => by have := Option.some.inj h; omega)).trans hq0
  have hr1 := (hg1.block (w.heap.size + 1) (lt_of_heap hr0) (fun h => by have := Option.some.inj h; omega)).trans hr0
  obtain ⟨w2, run2, ho2, hg2⟩ := ho1.update (t := 54) (e := 62) shapeLaw Tryd.underlying54 (by unfold maxLen; omega) (key := .string ⟨#[105, 110, 116]⟩) (WideMaps.keyOf_string_mk Tryd.underlying9 (by unfold maxLen; decide)) (val := .agg #[.int .i64 2, .int .i64 0, .int .i64 1, .int .i64 0, .int .i64 0, .bool false]) (d := encS 2 0 1 0 0 false) (ps := []) rfl
  have hB2 := hB1.grown hg2 hB1.size (fun k hk => by cases hk; omega)
  have hq2 := (hg2.block w.heap.size (lt_of_heap hq1) (fun h => by have := Option.some.inj h; omega)).trans hq1
  have hr2 := (hg2.block (w.heap.size + 1) (lt_of_heap hr1) (fun h => by have := Option.some.inj h; omega)).trans hr1
  obtain ⟨w3, run3, ho3, hg3⟩ := ho2.update (t := 54) (e := 62) shapeLaw Tryd.underlying54 (by unfold maxLen; omega) (key := .string ⟨#[115, 116, 114]⟩) (WideMaps.keyOf_string_mk Tryd.underlying9 (by unfold maxLen; decide)) (val := .agg #[.int .i64 3, .int .i64 0, .int .i64 1, .int .i64 0, .int .i64 0, .bool false]) (d := encS 3 0 1 0 0 false) (ps := []) rfl
  have hB3 := hB2.grown hg3 hB2.size (fun k hk => by cases hk; omega)
  have hq3 := (hg3.block w.heap.size (lt_of_heap hq2) (fun h => by have := Option.some.inj h; omega)).trans hq2
  have hr3 := (hg3.block (w.heap.size + 1) (lt_of_heap hr2) (fun h => by have := Option.some.inj h; omega)).trans hr2
  obtain ⟨w4, run4, ho4, hg4⟩ := ho3.update (t := 54) (e := 62) shapeLaw Tryd.underlying54 (by unfold maxLen; omega) (key := .string ⟨#[108, 111, 97, 100]⟩) (WideMaps.keyOf_string_mk Tryd.underlying9 (by unfold maxLen; decide)) (val := .agg #[.int .i64 5, .int .i64 0, .int .i64 1, .int .i64 0, .int .i64 0, .bool false]) (d := encS 5 0 1 0 0 false) (ps := []) rfl
  have hB4 := hB3.grown hg4 hB3.size (fun k hk => by cases hk; omega)
  have hq4 := (hg4.block w.heap.size (lt_of_heap hq3) (fun h => by have := Option.some.inj h; omega)).trans hq3
  have hr4 := (hg4.block (w.heap.size + 1) (lt_of_heap hr3) (fun h => by have := Option.some.inj h; omega)).trans hr3
  obtain ⟨w5, run5, ho5, hg5⟩ := ho4.update (t := 54) (e := 62) shapeLaw Tryd.underlying54 (by unfold maxLen; omega) (key := .string ⟨#[115, 116, 111, 114, 101]⟩) (WideMaps.keyOf_string_mk Tryd.underlying9 (by unfold maxLen; decide)) (val := .agg #[.int .i64 5, .int .i64 1, .int .i64 0, .int .i64 0, .int .i64 0, .bool false]) (d := encS 5 1 0 0 0 false) (ps := []) rfl
  have hB5 := hB4.grown hg5 hB4.size (fun k hk => by cases hk; omega)
  have hq5 := (hg5.block w.heap.size (lt_of_heap hq4) (fun h => by have := Option.some.inj h; omega)).trans hq4
  have hr5 := (hg5.block (w.heap.size + 1) (lt_of_heap hr4) (fun h => by have := Option.some.inj h; omega)).trans hr4
  obtain ⟨w6, run6, ho6, hg6⟩ := ho5.update (t := 54) (e := 62) shapeLaw Tryd.underlying54 (by unfold maxLen; omega) (key := .string ⟨#[99, 101, 108, 108]⟩) (WideMaps.keyOf_string_mk Tryd.underlying9 (by unfold maxLen; decide)) (val := .agg #[.int .i64 6, .int .i64 0, .int .i64 1, .int .i64 0, .int .i64 0, .bool false]) (d := encS 6 0 1 0 0 false) (ps := []) rfl
  have hB6 := hB5.grown hg6 hB5.size (fun k hk => by cases hk; omega)
  have hq6 := (hg6.block w.heap.size (lt_of_heap hq5) (fun h => by have := Option.some.inj h; omega)).trans hq5
  have hr6 := (hg6.block (w.heap.size + 1) (lt_of_heap hr5) (fun h => by have := Option.some.inj h; omega)).trans hr5
  obtain ⟨w7, run7, ho7, hg7⟩ := ho6.update (t := 54) (e := 62) shapeLaw Tryd.underlying54 (by unfold maxLen; omega) (key := .string ⟨#[102, 105, 108, 108]⟩) (WideMaps.keyOf_string_mk Tryd.underlying9 (by unfold maxLen; decide)) (val := .agg #[.int .i64 6, .int .i64 1, .int .i64 0, .int .i64 0, .int .i64 0, .bool false]) (d := encS 6 1 0 0 0 false) (ps := []) rfl
  have hB7 := hB6.grown hg7 hB6.size (fun k hk => by cases hk; omega)
  have hq7 := (hg7.block w.heap.size (lt_of_heap hq6) (fun h => by have := Option.some.inj h; omega)).trans hq6
  have hr7 := (hg7.block (w.heap.size + 1) (lt_of_heap hr6) (fun h => by have := Option.some.inj h; omega)).trans hr6
  obtain ⟨w8, run8, ho8, hg8⟩ := ho7.update (t := 54) (e := 62) shapeLaw Tryd.underlying54 (by unfold maxLen; omega) (key := .string ⟨#[103, 108, 111, 98, 97, 108]⟩) (WideMaps.keyOf_string_mk Tryd.underlying9 (by unfold maxLen; decide)) (val := .agg #[.int .i64 4, .int .i64 0, .int .i64 1, .int .i64 0, .int .i64 0, .bool false]) (d := encS 4 0 1 0 0 false) (ps := []) rfl
  have hB8 := hB7.grown hg8 hB7.size (fun k hk => by cases hk; omega)
  have hq8 := (hg8.block w.heap.size (lt_of_heap hq7) (fun h => by have := Option.some.inj h; omega)).trans hq7
  have hr8 := (hg8.block (w.heap.size + 1) (lt_of_heap hr7) (fun h => by have := Option.some.inj h; omega)).trans hr7
  obtain ⟨w9, run9, ho9, hg9⟩ := ho8.update (t := 54) (e := 62) shapeLaw Tryd.underlying54 (by unfold maxLen; omega) (key := .string ⟨#[110, 97, 109, 101]⟩) (WideMaps.keyOf_string_mk Tryd.underlying9 (by unfold maxLen; decide)) (val := .agg #[.int .i64 4, .int .i64 1, .int .i64 0, .int .i64 0, .int .i64 0, .bool false]) (d := encS 4 1 0 0 0 false) (ps := []) rfl
  have hB9 := hB8.grown hg9 hB8.size (fun k hk => by cases hk; omega)
  have hq9 := (hg9.block w.heap.size (lt_of_heap hq8) (fun h => by have := Option.some.inj h; omega)).trans hq8
  have hr9 := (hg9.block (w.heap.size + 1) (lt_of_heap hr8) (fun h => by have := Option.some.inj h; omega)).trans hr8
  obtain ⟨c9_0, c9_1, c9_2, c9_3, c9_4, c9_5⟩ := shape_block hq9
  obtain ⟨w10, run10, ho10, hg10⟩ := ho9.update (t := 54) (e := 62) shapeLaw Tryd.underlying54 (by unfold maxLen; omega) (key := .string ⟨#[110, 101, 103]⟩) (WideMaps.keyOf_string_mk Tryd.underlying9 (by unfold maxLen; decide)) (val := .agg #[.int .i64 0, .int .i64 1, .int .i64 1, .int .i64 0, .int .i64 0, .bool false]) (d := encS 0 1 1 0 0 false) (ps := []) rfl
  have hB10 := hB9.grown hg10 hB9.size (fun k hk => by cases hk; omega)
  have hq10 := (hg10.block w.heap.size (lt_of_heap hq9) (fun h => by have := Option.some.inj h; omega)).trans hq9
  have hr10 := (hg10.block (w.heap.size + 1) (lt_of_heap hr9) (fun h => by have := Option.some.inj h; omega)).trans hr9
  obtain ⟨c10_0, c10_1, c10_2, c10_3, c10_4, c10_5⟩ := shape_block hq10
  obtain ⟨w11, run11, ho11, hg11⟩ := ho10.update (t := 54) (e := 62) shapeLaw Tryd.underlying54 (by unfold maxLen; omega) (key := .string ⟨#[110, 111, 116]⟩) (WideMaps.keyOf_string_mk Tryd.underlying9 (by unfold maxLen; decide)) (val := .agg #[.int .i64 0, .int .i64 1, .int .i64 1, .int .i64 0, .int .i64 0, .bool false]) (d := encS 0 1 1 0 0 false) (ps := []) rfl
  have hB11 := hB10.grown hg11 hB10.size (fun k hk => by cases hk; omega)
  have hq11 := (hg11.block w.heap.size (lt_of_heap hq10) (fun h => by have := Option.some.inj h; omega)).trans hq10
  have hr11 := (hg11.block (w.heap.size + 1) (lt_of_heap hr10) (fun h => by have := Option.some.inj h; omega)).trans hr10
  obtain ⟨c11_0, c11_1, c11_2, c11_3, c11_4, c11_5⟩ := shape_block hr11
  obtain ⟨w12, run12, ho12, hg12⟩ := ho11.update (t := 54) (e := 62) shapeLaw Tryd.underlying54 (by unfold maxLen; omega) (key := .string ⟨#[97, 100, 100]⟩) (WideMaps.keyOf_string_mk Tryd.underlying9 (by unfold maxLen; decide)) (val := .agg #[.int .i64 0, .int .i64 2, .int .i64 1, .int .i64 0, .int .i64 0, .bool false]) (d := encS 0 2 1 0 0 false) (ps := []) rfl
  have hB12 := hB11.grown hg12 hB11.size (fun k hk => by cases hk; omega)
  have hq12 := (hg12.block w.heap.size (lt_of_heap hq11) (fun h => by have := Option.some.inj h; omega)).trans hq11
  have hr12 := (hg12.block (w.heap.size + 1) (lt_of_heap hr11) (fun h => by have := Option.some.inj h; omega)).trans hr11
  obtain ⟨c12_0, c12_1, c12_2, c12_3, c12_4, c12_5⟩ := shape_block hr12
  obtain ⟨w13, run13, ho13, hg13⟩ := ho12.update (t := 54) (e := 62) shapeLaw Tryd.underlying54 (by unfold maxLen; omega) (key := .string ⟨#[115, 117, 98]⟩) (WideMaps.keyOf_string_mk Tryd.underlying9 (by unfold maxLen; decide)) (val := .agg #[.int .i64 0, .int .i64 2, .int .i64 1, .int .i64 0, .int .i64 0, .bool false]) (d := encS 0 2 1 0 0 false) (ps := []) rfl
  have hB13 := hB12.grown hg13 hB12.size (fun k hk => by cases hk; omega)
  have hq13 := (hg13.block w.heap.size (lt_of_heap hq12) (fun h => by have := Option.some.inj h; omega)).trans hq12
  have hr13 := (hg13.block (w.heap.size + 1) (lt_of_heap hr12) (fun h => by have := Option.some.inj h; omega)).trans hr12
  obtain ⟨c13_0, c13_1, c13_2, c13_3, c13_4, c13_5⟩ := shape_block hr13
  obtain ⟨w14, run14, ho14, hg14⟩ := ho13.update (t := 54) (e := 62) shapeLaw Tryd.underlying54 (by unfold maxLen; omega) (key := .string ⟨#[109, 117, 108]⟩) (WideMaps.keyOf_string_mk Tryd.underlying9 (by unfold maxLen; decide)) (val := .agg #[.int .i64 0, .int .i64 2, .int .i64 1, .int .i64 0, .int .i64 0, .bool false]) (d := encS 0 2 1 0 0 false) (ps := []) rfl
  have hB14 := hB13.grown hg14 hB13.size (fun k hk => by cases hk; omega)
  have hq14 := (hg14.block w.heap.size (lt_of_heap hq13) (fun h => by have := Option.some.inj h; omega)).trans hq13
  have hr14 := (hg14.block (w.heap.size + 1) (lt_of_heap hr13) (fun h => by have := Option.some.inj h; omega)).trans hr13
  obtain ⟨c14_0, c14_1, c14_2, c14_3, c14_4, c14_5⟩ := shape_block hr14
  obtain ⟨w15, run15, ho15, hg15⟩ := ho14.update (t := 54) (e := 62) shapeLaw Tryd.underlying54 (by unfold maxLen; omega) (key := .string ⟨#[100, 105, 118]⟩) (WideMaps.keyOf_string_mk Tryd.underlying9 (by unfold maxLen; decide)) (val := .agg #[.int .i64 0, .int .i64 2, .int .i64 1, .int .i64 0, .int .i64 0, .bool false]) (d := encS 0 2 1 0 0 false) (ps := []) rfl
  have hB15 := hB14.grown hg15 hB14.size (fun k hk => by cases hk; omega)
  have hq15 := (hg15.block w.heap.size (lt_of_heap hq14) (fun h => by have := Option.some.inj h; omega)).trans hq14
  have hr15 := (hg15.block (w.heap.size + 1) (lt_of_heap hr14) (fun h => by have := Option.some.inj h; omega)).trans hr14
  obtain ⟨c15_0, c15_1, c15_2, c15_3, c15_4, c15_5⟩ := shape_block hr15
  obtain ⟨w16, run16, ho16, hg16⟩ := ho15.update (t := 54) (e := 62) shapeLaw Tryd.underlying54 (by unfold maxLen; omega) (key := .string ⟨#[109, 111, 100]⟩) (WideMaps.keyOf_string_mk Tryd.underlying9 (by unfold maxLen; decide)) (val := .agg #[.int .i64 0, .int .i64 2, .int .i64 1, .int .i64 0, .int .i64 0, .bool false]) (d := encS 0 2 1 0 0 false) (ps := []) rfl
  have hB16 := hB15.grown hg16 hB15.size (fun k hk => by cases hk; omega)
  have hq16 := (hg16.block w.heap.size (lt_of_heap hq15) (fun h => by have := Option.some.inj h; omega)).trans hq15
  have hr16 := (hg16.block (w.heap.size + 1) (lt_of_heap hr15) (fun h => by have := Option.some.inj h; omega)).trans hr15
  obtain ⟨c16_0, c16_1, c16_2, c16_3, c16_4, c16_5⟩ := shape_block hr16
  obtain ⟨w17, run17, ho17, hg17⟩ := ho16.update (t := 54) (e := 62) shapeLaw Tryd.underlying54 (by unfold maxLen; omega) (key := .string ⟨#[101, 113]⟩) (WideMaps.keyOf_string_mk Tryd.underlying9 (by unfold maxLen; decide)) (val := .agg #[.int .i64 0, .int .i64 2, .int .i64 1, .int .i64 0, .int .i64 0, .bool false]) (d := encS 0 2 1 0 0 false) (ps := []) rfl
  have hB17 := hB16.grown hg17 hB16.size (fun k hk => by cases hk; omega)
  have hq17 := (hg17.block w.heap.size (lt_of_heap hq16) (fun h => by have := Option.some.inj h; omega)).trans hq16
  have hr17 := (hg17.block (w.heap.size + 1) (lt_of_heap hr16) (fun h => by have := Option.some.inj h; omega)).trans hr16
  obtain ⟨c17_0, c17_1, c17_2, c17_3, c17_4, c17_5⟩ := shape_block hr17
  obtain ⟨w18, run18, ho18, hg18⟩ := ho17.update (t := 54) (e := 62) shapeLaw Tryd.underlying54 (by unfold maxLen; omega) (key := .string ⟨#[110, 101]⟩) (WideMaps.keyOf_string_mk Tryd.underlying9 (by unfold maxLen; decide)) (val := .agg #[.int .i64 0, .int .i64 2, .int .i64 1, .int .i64 0, .int .i64 0, .bool false]) (d := encS 0 2 1 0 0 false) (ps := []) rfl
  have hB18 := hB17.grown hg18 hB17.size (fun k hk => by cases hk; omega)
  have hq18 := (hg18.block w.heap.size (lt_of_heap hq17) (fun h => by have := Option.some.inj h; omega)).trans hq17
  have hr18 := (hg18.block (w.heap.size + 1) (lt_of_heap hr17) (fun h => by have := Option.some.inj h; omega)).trans hr17
  obtain ⟨c18_0, c18_1, c18_2, c18_3, c18_4, c18_5⟩ := shape_block hr18
  obtain ⟨w19, run19, ho19, hg19⟩ := ho18.update (t := 54) (e := 62) shapeLaw Tryd.underlying54 (by unfold maxLen; omega) (key := .string ⟨#[108, 116]⟩) (WideMaps.keyOf_string_mk Tryd.underlying9 (by unfold maxLen; decide)) (val := .agg #[.int .i64 0, .int .i64 2, .int .i64 1, .int .i64 0, .int .i64 0, .bool false]) (d := encS 0 2 1 0 0 false) (ps := []) rfl
  have hB19 := hB18.grown hg19 hB18.size (fun k hk => by cases hk; omega)
  have hq19 := (hg19.block w.heap.size (lt_of_heap hq18) (fun h => by have := Option.some.inj h; omega)).trans hq18
  have hr19 := (hg19.block (w.heap.size + 1) (lt_of_heap hr18) (fun h => by have := Option.some.inj h; omega)).trans hr18
  obtain ⟨c19_0, c19_1, c19_2, c19_3, c19_4, c19_5⟩ := shape_block hr19
  obtain ⟨w20, run20, ho20, hg20⟩ := ho19.update (t := 54) (e := 62) shapeLaw Tryd.underlying54 (by unfold maxLen; omega) (key := .string ⟨#[108, 101]⟩) (WideMaps.keyOf_string_mk Tryd.underlying9 (by unfold maxLen; decide)) (val := .agg #[.int .i64 0, .int .i64 2, .int .i64 1, .int .i64 0, .int .i64 0, .bool false]) (d := encS 0 2 1 0 0 false) (ps := []) rfl
  have hB20 := hB19.grown hg20 hB19.size (fun k hk => by cases hk; omega)
  have hq20 := (hg20.block w.heap.size (lt_of_heap hq19) (fun h => by have := Option.some.inj h; omega)).trans hq19
  have hr20 := (hg20.block (w.heap.size + 1) (lt_of_heap hr19) (fun h => by have := Option.some.inj h; omega)).trans hr19
  obtain ⟨c20_0, c20_1, c20_2, c20_3, c20_4, c20_5⟩ := shape_block hr20
  obtain ⟨w21, run21, ho21, hg21⟩ := ho20.update (t := 54) (e := 62) shapeLaw Tryd.underlying54 (by unfold maxLen; omega) (key := .string ⟨#[103, 116]⟩) (WideMaps.keyOf_string_mk Tryd.underlying9 (by unfold maxLen; decide)) (val := .agg #[.int .i64 0, .int .i64 2, .int .i64 1, .int .i64 0, .int .i64 0, .bool false]) (d := encS 0 2 1 0 0 false) (ps := []) rfl
  have hB21 := hB20.grown hg21 hB20.size (fun k hk => by cases hk; omega)
  have hq21 := (hg21.block w.heap.size (lt_of_heap hq20) (fun h => by have := Option.some.inj h; omega)).trans hq20
  have hr21 := (hg21.block (w.heap.size + 1) (lt_of_heap hr20) (fun h => by have := Option.some.inj h; omega)).trans hr20
  obtain ⟨c21_0, c21_1, c21_2, c21_3, c21_4, c21_5⟩ := shape_block hr21
  obtain ⟨w22, run22, ho22, hg22⟩ := ho21.update (t := 54) (e := 62) shapeLaw Tryd.underlying54 (by unfold maxLen; omega) (key := .string ⟨#[103, 101]⟩) (WideMaps.keyOf_string_mk Tryd.underlying9 (by unfold maxLen; decide)) (val := .agg #[.int .i64 0, .int .i64 2, .int .i64 1, .int .i64 0, .int .i64 0, .bool false]) (d := encS 0 2 1 0 0 false) (ps := []) rfl
  have hB22 := hB21.grown hg22 hB21.size (fun k hk => by cases hk; omega)
  have hq22 := (hg22.block w.heap.size (lt_of_heap hq21) (fun h => by have := Option.some.inj h; omega)).trans hq21
  have hr22 := (hg22.block (w.heap.size + 1) (lt_of_heap hr21) (fun h => by have := Option.some.inj h; omega)).trans hr21
  obtain ⟨c22_0, c22_1, c22_2, c22_3, c22_4, c22_5⟩ := shape_block hr22
  obtain ⟨w23, run23, ho23, hg23⟩ := ho22.update (t := 54) (e := 62) shapeLaw Tryd.underlying54 (by unfold maxLen; omega) (key := .string ⟨#[105, 115]⟩) (WideMaps.keyOf_string_mk Tryd.underlying9 (by unfold maxLen; decide)) (val := .agg #[.int .i64 0, .int .i64 2, .int .i64 1, .int .i64 0, .int .i64 0, .bool false]) (d := encS 0 2 1 0 0 false) (ps := []) rfl
  have hB23 := hB22.grown hg23 hB22.size (fun k hk => by cases hk; omega)
  have hq23 := (hg23.block w.heap.size (lt_of_heap hq22) (fun h => by have := Option.some.inj h; omega)).trans hq22
  have hr23 := (hg23.block (w.heap.size + 1) (lt_of_heap hr22) (fun h => by have := Option.some.inj h; omega)).trans hr22
  obtain ⟨c23_0, c23_1, c23_2, c23_3, c23_4, c23_5⟩ := shape_block hr23
  obtain ⟨w24, run24, ho24, hg24⟩ := ho23.update (t := 54) (e := 62) shapeLaw Tryd.underlying54 (by unfold maxLen; omega) (key := .string ⟨#[105, 110]⟩) (WideMaps.keyOf_string_mk Tryd.underlying9 (by unfold maxLen; decide)) (val := .agg #[.int .i64 0, .int .i64 2, .int .i64 1, .int .i64 0, .int .i64 0, .bool false]) (d := encS 0 2 1 0 0 false) (ps := []) rfl
  have hB24 := hB23.grown hg24 hB23.size (fun k hk => by cases hk; omega)
  have hq24 := (hg24.block w.heap.size (lt_of_heap hq23) (fun h => by have := Option.some.inj h; omega)).trans hq23
  have hr24 := (hg24.block (w.heap.size + 1) (lt_of_heap hr23) (fun h => by have := Option.some.inj h; omega)).trans hr23
  obtain ⟨w25, run25, ho25, hg25⟩ := ho24.update (t := 54) (e := 62) shapeLaw Tryd.underlying54 (by unfold maxLen; omega) (key := .string ⟨#[99, 97, 108, 108]⟩) (WideMaps.keyOf_string_mk Tryd.underlying9 (by unfold maxLen; decide)) (val := .agg #[.int .i64 9, .int .i64 1, .int .i64 1, .int .i64 1, .int .i64 0, .bool false]) (d := encS 9 1 1 1 0 false) (ps := []) rfl
  have hB25 := hB24.grown hg25 hB24.size (fun k hk => by cases hk; omega)
  have hq25 := (hg25.block w.heap.size (lt_of_heap hq24) (fun h => by have := Option.some.inj h; omega)).trans hq24
  have hr25 := (hg25.block (w.heap.size + 1) (lt_of_heap hr24) (fun h => by have := Option.some.inj h; omega)).trans hr24
  obtain ⟨c25_0, c25_1, c25_2, c25_3, c25_4, c25_5⟩ := shape_block hr25
  obtain ⟨w26, run26, ho26, hg26⟩ := ho25.update (t := 54) (e := 62) shapeLaw Tryd.underlying54 (by unfold maxLen; omega) (key := .string ⟨#[105, 110, 100, 101, 120]⟩) (WideMaps.keyOf_string_mk Tryd.underlying9 (by unfold maxLen; decide)) (val := .agg #[.int .i64 0, .int .i64 2, .int .i64 1, .int .i64 0, .int .i64 0, .bool false]) (d := encS 0 2 1 0 0 false) (ps := []) rfl
  have hB26 := hB25.grown hg26 hB25.size (fun k hk => by cases hk; omega)
  have hq26 := (hg26.block w.heap.size (lt_of_heap hq25) (fun h => by have := Option.some.inj h; omega)).trans hq25
  have hr26 := (hg26.block (w.heap.size + 1) (lt_of_heap hr25) (fun h => by have := Option.some.inj h; omega)).trans hr25
  obtain ⟨w27, run27, ho27, hg27⟩ := ho26.update (t := 54) (e := 62) shapeLaw Tryd.underlying54 (by unfold maxLen; omega) (key := .string ⟨#[112, 117, 116]⟩) (WideMaps.keyOf_string_mk Tryd.underlying9 (by unfold maxLen; decide)) (val := .agg #[.int .i64 0, .int .i64 3, .int .i64 0, .int .i64 0, .int .i64 0, .bool false]) (d := encS 0 3 0 0 0 false) (ps := []) rfl
  have hB27 := hB26.grown hg27 hB26.size (fun k hk => by cases hk; omega)
  have hq27 := (hg27.block w.heap.size (lt_of_heap hq26) (fun h => by have := Option.some.inj h; omega)).trans hq26
  have hr27 := (hg27.block (w.heap.size + 1) (lt_of_heap hr26) (fun h => by have := Option.some.inj h; omega)).trans hr26
  obtain ⟨w28, run28, ho28, hg28⟩ := ho27.update (t := 54) (e := 62) shapeLaw Tryd.underlying54 (by unfold maxLen; omega) (key := .string ⟨#[100, 101, 108]⟩) (WideMaps.keyOf_string_mk Tryd.underlying9 (by unfold maxLen; decide)) (val := .agg #[.int .i64 0, .int .i64 2, .int .i64 0, .int .i64 0, .int .i64 0, .bool false]) (d := encS 0 2 0 0 0 false) (ps := []) rfl
  have hB28 := hB27.grown hg28 hB27.size (fun k hk => by cases hk; omega)
  have hq28 := (hg28.block w.heap.size (lt_of_heap hq27) (fun h => by have := Option.some.inj h; omega)).trans hq27
  have hr28 := (hg28.block (w.heap.size + 1) (lt_of_heap hr27) (fun h => by have := Option.some.inj h; omega)).trans hr27
  obtain ⟨w29, run29, ho29, hg29⟩ := ho28.update (t := 54) (e := 62) shapeLaw Tryd.underlying54 (by unfold maxLen; omega) (key := .string ⟨#[108, 105, 115, 116]⟩) (WideMaps.keyOf_string_mk Tryd.underlying9 (by unfold maxLen; decide)) (val := .agg #[.int .i64 9, .int .i64 0, .int .i64 1, .int .i64 1, .int .i64 0, .bool false]) (d := encS 9 0 1 1 0 false) (ps := []) rfl
  have hB29 := hB28.grown hg29 hB28.size (fun k hk => by cases hk; omega)
  have hq29 := (hg29.block w.heap.size (lt_of_heap hq28) (fun h => by have := Option.some.inj h; omega)).trans hq28
  have hr29 := (hg29.block (w.heap.size + 1) (lt_of_heap hr28) (fun h => by have := Option.some.inj h; omega)).trans hr28
  obtain ⟨w30, run30, ho30, hg30⟩ := ho29.update (t := 54) (e := 62) shapeLaw Tryd.underlying54 (by unfold maxLen; omega) (key := .string ⟨#[100, 105, 99, 116]⟩) (WideMaps.keyOf_string_mk Tryd.underlying9 (by unfold maxLen; decide)) (val := .agg #[.int .i64 9, .int .i64 0, .int .i64 1, .int .i64 2, .int .i64 0, .bool false]) (d := encS 9 0 1 2 0 false) (ps := []) rfl
  have hB30 := hB29.grown hg30 hB29.size (fun k hk => by cases hk; omega)
  have hq30 := (hg30.block w.heap.size (lt_of_heap hq29) (fun h => by have := Option.some.inj h; omega)).trans hq29
  have hr30 := (hg30.block (w.heap.size + 1) (lt_of_heap hr29) (fun h => by have := Option.some.inj h; omega)).trans hr29
  obtain ⟨w31, run31, ho31, hg31⟩ := ho30.update (t := 54) (e := 62) shapeLaw Tryd.underlying54 (by unfold maxLen; omega) (key := .string ⟨#[99, 108, 111, 115, 117, 114, 101]⟩) (WideMaps.keyOf_string_mk Tryd.underlying9 (by unfold maxLen; decide)) (val := .agg #[.int .i64 7, .int .i64 0, .int .i64 1, .int .i64 0, .int .i64 0, .bool false]) (d := encS 7 0 1 0 0 false) (ps := []) rfl
  have hB31 := hB30.grown hg31 hB30.size (fun k hk => by cases hk; omega)
  have hq31 := (hg31.block w.heap.size (lt_of_heap hq30) (fun h => by have := Option.some.inj h; omega)).trans hq30
  have hr31 := (hg31.block (w.heap.size + 1) (lt_of_heap hr30) (fun h => by have := Option.some.inj h; omega)).trans hr30
  obtain ⟨w32, run32, ho32, hg32⟩ := ho31.update (t := 54) (e := 62) shapeLaw Tryd.underlying54 (by unfold maxLen; omega) (key := .string ⟨#[116, 97, 107, 101]⟩) (WideMaps.keyOf_string_mk Tryd.underlying9 (by unfold maxLen; decide)) (val := .agg #[.int .i64 6, .int .i64 0, .int .i64 0, .int .i64 0, .int .i64 0, .bool false]) (d := encS 6 0 0 0 0 false) (ps := []) rfl
  have hB32 := hB31.grown hg32 hB31.size (fun k hk => by cases hk; omega)
  have hq32 := (hg32.block w.heap.size (lt_of_heap hq31) (fun h => by have := Option.some.inj h; omega)).trans hq31
  have hr32 := (hg32.block (w.heap.size + 1) (lt_of_heap hr31) (fun h => by have := Option.some.inj h; omega)).trans hr31
  obtain ⟨w33, run33, ho33, hg33⟩ := ho32.update (t := 54) (e := 62) shapeLaw Tryd.underlying54 (by unfold maxLen; omega) (key := .string ⟨#[112, 111, 112]⟩) (WideMaps.keyOf_string_mk Tryd.underlying9 (by unfold maxLen; decide)) (val := .agg #[.int .i64 0, .int .i64 1, .int .i64 0, .int .i64 0, .int .i64 0, .bool false]) (d := encS 0 1 0 0 0 false) (ps := []) rfl
  have hB33 := hB32.grown hg33 hB32.size (fun k hk => by cases hk; omega)
  have hq33 := (hg33.block w.heap.size (lt_of_heap hq32) (fun h => by have := Option.some.inj h; omega)).trans hq32
  have hr33 := (hg33.block (w.heap.size + 1) (lt_of_heap hr32) (fun h => by have := Option.some.inj h; omega)).trans hr32
  obtain ⟨w34, run34, ho34, hg34⟩ := ho33.update (t := 54) (e := 62) shapeLaw Tryd.underlying54 (by unfold maxLen; omega) (key := .string ⟨#[100, 117, 112]⟩) (WideMaps.keyOf_string_mk Tryd.underlying9 (by unfold maxLen; decide)) (val := .agg #[.int .i64 0, .int .i64 1, .int .i64 2, .int .i64 0, .int .i64 0, .bool false]) (d := encS 0 1 2 0 0 false) (ps := []) rfl
  have hB34 := hB33.grown hg34 hB33.size (fun k hk => by cases hk; omega)
  have hq34 := (hg34.block w.heap.size (lt_of_heap hq33) (fun h => by have := Option.some.inj h; omega)).trans hq33
  have hr34 := (hg34.block (w.heap.size + 1) (lt_of_heap hr33) (fun h => by have := Option.some.inj h; omega)).trans hr33
  obtain ⟨w35, run35, ho35, hg35⟩ := ho34.update (t := 54) (e := 62) shapeLaw Tryd.underlying54 (by unfold maxLen; omega) (key := .string ⟨#[106, 117, 109, 112]⟩) (WideMaps.keyOf_string_mk Tryd.underlying9 (by unfold maxLen; decide)) (val := .agg #[.int .i64 8, .int .i64 0, .int .i64 0, .int .i64 0, .int .i64 0, .bool true]) (d := encS 8 0 0 0 0 true) (ps := []) rfl
  have hB35 := hB34.grown hg35 hB34.size (fun k hk => by cases hk; omega)
  have hq35 := (hg35.block w.heap.size (lt_of_heap hq34) (fun h => by have := Option.some.inj h; omega)).trans hq34
  have hr35 := (hg35.block (w.heap.size + 1) (lt_of_heap hr34) (fun h => by have := Option.some.inj h; omega)).trans hr34
  obtain ⟨w36, run36, ho36, hg36⟩ := ho35.update (t := 54) (e := 62) shapeLaw Tryd.underlying54 (by unfold maxLen; omega) (key := .string ⟨#[117, 110, 108, 101, 115, 115]⟩) (WideMaps.keyOf_string_mk Tryd.underlying9 (by unfold maxLen; decide)) (val := .agg #[.int .i64 8, .int .i64 1, .int .i64 0, .int .i64 0, .int .i64 0, .bool false]) (d := encS 8 1 0 0 0 false) (ps := []) rfl
  have hB36 := hB35.grown hg36 hB35.size (fun k hk => by cases hk; omega)
  have hq36 := (hg36.block w.heap.size (lt_of_heap hq35) (fun h => by have := Option.some.inj h; omega)).trans hq35
  have hr36 := (hg36.block (w.heap.size + 1) (lt_of_heap hr35) (fun h => by have := Option.some.inj h; omega)).trans hr35
  obtain ⟨c36_0, c36_1, c36_2, c36_3, c36_4, c36_5⟩ := shape_block hq36
  obtain ⟨w37, run37, ho37, hg37⟩ := ho36.update (t := 54) (e := 62) shapeLaw Tryd.underlying54 (by unfold maxLen; omega) (key := .string ⟨#[105, 116, 101, 114]⟩) (WideMaps.keyOf_string_mk Tryd.underlying9 (by unfold maxLen; decide)) (val := .agg #[.int .i64 0, .int .i64 1, .int .i64 1, .int .i64 0, .int .i64 0, .bool false]) (d := encS 0 1 1 0 0 false) (ps := []) rfl
  have hB37 := hB36.grown hg37 hB36.size (fun k hk => by cases hk; omega)
  have hq37 := (hg37.block w.heap.size (lt_of_heap hq36) (fun h => by have := Option.some.inj h; omega)).trans hq36
  have hr37 := (hg37.block (w.heap.size + 1) (lt_of_heap hr36) (fun h => by have := Option.some.inj h; omega)).trans hr36
  obtain ⟨w38, run38, ho38, hg38⟩ := ho37.update (t := 54) (e := 62) shapeLaw Tryd.underlying54 (by unfold maxLen; omega) (key := .string ⟨#[110, 101, 120, 116]⟩) (WideMaps.keyOf_string_mk Tryd.underlying9 (by unfold maxLen; decide)) (val := .agg #[.int .i64 8, .int .i64 1, .int .i64 2, .int .i64 0, .int .i64 0, .bool false]) (d := encS 8 1 2 0 0 false) (ps := []) rfl
  have hB38 := hB37.grown hg38 hB37.size (fun k hk => by cases hk; omega)
  have hq38 := (hg38.block w.heap.size (lt_of_heap hq37) (fun h => by have := Option.some.inj h; omega)).trans hq37
  have hr38 := (hg38.block (w.heap.size + 1) (lt_of_heap hr37) (fun h => by have := Option.some.inj h; omega)).trans hr37
  obtain ⟨w39, run39, ho39, hg39⟩ := ho38.update (t := 54) (e := 62) shapeLaw Tryd.underlying54 (by unfold maxLen; omega) (key := .string ⟨#[116, 114, 121]⟩) (WideMaps.keyOf_string_mk Tryd.underlying9 (by unfold maxLen; decide)) (val := .agg #[.int .i64 8, .int .i64 0, .int .i64 0, .int .i64 0, .int .i64 1, .bool false]) (d := encS 8 0 0 0 1 false) (ps := []) rfl
  have hB39 := hB38.grown hg39 hB38.size (fun k hk => by cases hk; omega)
  have hq39 := (hg39.block w.heap.size (lt_of_heap hq38) (fun h => by have := Option.some.inj h; omega)).trans hq38
  have hr39 := (hg39.block (w.heap.size + 1) (lt_of_heap hr38) (fun h => by have := Option.some.inj h; omega)).trans hr38
  obtain ⟨w40, run40, ho40, hg40⟩ := ho39.update (t := 54) (e := 62) shapeLaw Tryd.underlying54 (by unfold maxLen; omega) (key := .string ⟨#[101, 110, 100]⟩) (WideMaps.keyOf_string_mk Tryd.underlying9 (by unfold maxLen; decide)) (val := .agg #[.int .i64 0, .int .i64 0, .int .i64 0, .int .i64 0, .int .i64 0, .bool false]) (d := encS 0 0 0 0 0 false) (ps := []) rfl
  have hB40 := hB39.grown hg40 hB39.size (fun k hk => by cases hk; omega)
  have hq40 := (hg40.block w.heap.size (lt_of_heap hq39) (fun h => by have := Option.some.inj h; omega)).trans hq39
  have hr40 := (hg40.block (w.heap.size + 1) (lt_of_heap hr39) (fun h => by have := Option.some.inj h; omega)).trans hr39
  obtain ⟨w41, run41, ho41, hg41⟩ := ho40.update (t := 54) (e := 62) shapeLaw Tryd.underlying54 (by unfold maxLen; omega) (key := .string ⟨#[114, 97, 105, 115, 101]⟩) (WideMaps.keyOf_string_mk Tryd.underlying9 (by unfold maxLen; decide)) (val := .agg #[.int .i64 0, .int .i64 1, .int .i64 0, .int .i64 0, .int .i64 0, .bool true]) (d := encS 0 1 0 0 0 true) (ps := []) rfl
  have hB41 := hB40.grown hg41 hB40.size (fun k hk => by cases hk; omega)
  have hq41 := (hg41.block w.heap.size (lt_of_heap hq40) (fun h => by have := Option.some.inj h; omega)).trans hq40
  have hr41 := (hg41.block (w.heap.size + 1) (lt_of_heap hr40) (fun h => by have := Option.some.inj h; omega)).trans hr40
  obtain ⟨w42, run42, ho42, hg42⟩ := ho41.update (t := 54) (e := 62) shapeLaw Tryd.underlying54 (by unfold maxLen; omega) (key := .string ⟨#[114, 101, 116, 117, 114, 110]⟩) (WideMaps.keyOf_string_mk Tryd.underlying9 (by unfold maxLen; decide)) (val := .agg #[.int .i64 0, .int .i64 1, .int .i64 0, .int .i64 0, .int .i64 0, .bool true]) (d := encS 0 1 0 0 0 true) (ps := []) rfl
  have hB42 := hB41.grown hg42 hB41.size (fun k hk => by cases hk; omega)
  have hq42 := (hg42.block w.heap.size (lt_of_heap hq41) (fun h => by have := Option.some.inj h; omega)).trans hq41
  have hr42 := (hg42.block (w.heap.size + 1) (lt_of_heap hr41) (fun h => by have := Option.some.inj h; omega)).trans hr41
  obtain ⟨w43, run43, ho43, hg43⟩ := ho42.update (t := 54) (e := 62) shapeLaw Tryd.underlying54 (by unfold maxLen; omega) (key := .string ⟨#[115, 116, 101, 112]⟩) (WideMaps.keyOf_string_mk Tryd.underlying9 (by unfold maxLen; decide)) (val := .agg #[.int .i64 0, .int .i64 0, .int .i64 0, .int .i64 0, .int .i64 0, .bool false]) (d := encS 0 0 0 0 0 false) (ps := []) rfl
  have hB43 := hB42.grown hg43 hB42.size (fun k hk => by cases hk; omega)
  have hq43 := (hg43.block w.heap.size (lt_of_heap hq42) (fun h => by have := Option.some.inj h; omega)).trans hq42
  have hr43 := (hg43.block (w.heap.size + 1) (lt_of_heap hr42) (fun h => by have := Option.some.inj h; omega)).trans hr42
  obtain ⟨w44, run44, ho44, hg44⟩ := ho43.update (t := 54) (e := 62) shapeLaw Tryd.underlying54 (by unfold maxLen; omega) (key := .string ⟨#[104, 97, 108, 116]⟩) (WideMaps.keyOf_string_mk Tryd.underlying9 (by unfold maxLen; decide)) (val := .agg #[.int .i64 0, .int .i64 0, .int .i64 0, .int .i64 0, .int .i64 0, .bool true]) (d := encS 0 0 0 0 0 true) (ps := []) rfl
  have hB44 := hB43.grown hg44 hB43.size (fun k hk => by cases hk; omega)
  have hq44 := (hg44.block w.heap.size (lt_of_heap hq43) (fun h => by have := Option.some.inj h; omega)).trans hq43
  have hr44 := (hg44.block (w.heap.size + 1) (lt_of_heap hr43) (fun h => by have := Option.some.inj h; omega)).trans hr43
  have HO : Hid (w44.ownsMap Tryd.prog 9 shapeR (w.heap.size + 1 + 1) 44 shapeD) := ho44
  have HB := toHid hB44
  clear ho0 hB0 hq0 hr0 ho1 hB1 hq1 hr1 ho2 hB2 hq2 hr2 ho3 hB3 hq3 hr3 ho4 hB4 hq4 hr4 ho5 hB5 hq5 hr5 ho6 hB6 hq6 hr6 ho7 hB7 hq7 hr7 ho8 hB8 hq8 hr8 ho9 hB9 hq9 hr9 ho10 hB10 hq10 hr10 ho11 hB11 hq11 hr11 ho12 hB12 hq12 hr12 ho13 hB13 hq13 hr13 ho14 hB14 hq14 hr14 ho15 hB15 hq15 hr15 ho16 hB16 hq16 hr16 ho17 hB17 hq17 hr17 ho18 hB18 hq18 hr18 ho19 hB19 hq19 hr19 ho20 hB20 hq20 hr20 ho21 hB21 hq21 hr21 ho22 hB22 hq22 hr22 ho23 hB23 hq23 hr23 ho24 hB24 hq24 hr24 ho25 hB25 hq25 hr25 ho26 hB26 hq26 hr26 ho27 hB27 hq27 hr27 ho28 hB28 hq28 hr28 ho29 hB29 hq29 hr29 ho30 hB30 hq30 hr30 ho31 hB31 hq31 hr31 ho32 hB32 hq32 hr32 ho33 hB33 hq33 hr33 ho34 hB34 hq34 hr34 ho35 hB35 hq35 hr35 ho36 hB36 hq36 hr36 ho37 hB37 hq37 hr37 ho38 hB38 hq38 hr38 ho39 hB39 hq39 hr39 ho40 hB40 hq40 hr40 ho41 hB41 hq41 hr41 ho42 hB42 hq42 hr42 ho43 hB43 hq43 hr43 ho44 hB44 hq44 hr44 hg1 hg2 hg3 hg4 hg5 hg6 hg7 hg8 hg9 hg10 hg11 hg12 hg13 hg14 hg15 hg16 hg17 hg18 hg19 hg20 hg21 hg22 hg23 hg24 hg25 hg26 hg27 hg28 hg29 hg30 hg31 hg32 hg33 hg34 hg35 hg36 hg37 hg38 hg39 hg40 hg41 hg42 hg43 hg44
  go_enter Tryd.func14, Tryd.ntmps14
  go_wp2
  go_ret
  exact ⟨_, rfl, by omega, HO.out, HB.out⟩
end Go.Proofs.YtgpfjlejmcdpmaaDoor
