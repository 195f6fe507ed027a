/- The document's memory: what can be come to (come), by a contract. -/
import Derived.Test.YtebhakmladbjlaaGreatDoorMemRC
namespace Go.Proofs.YtebhakmladbjlaaGreatDoor
open Go.RowKit

/-- What is come to by one word more. -/
def comeP (out : List Nat) (x : Int) : List Nat := if 0 ≤ ptI x ∧ objI out (ptI x) < 0 then out ++ [(ptI x).toNat] else out
theorem objI_neg {vs : List Nat} {x : Int} (h : ¬ 0 ≤ objI vs x) : objI vs x = -1 := by
  unfold objI at *
  split at h <;> simp_all
theorem objI_some {vs : List Nat} {x : Int} (h : 0 ≤ objI vs x) : ∃ k f : Nat, objI vs x = (k : Int) ∧ vs[k]? = some f ∧ (f : Int) = x ∧ k < vs.length := by
  unfold objI at *
  cases e : vs.findIdx? (fun v : Nat => (v : Int) == x) with
  | none => rw [e] at h; simp at h
  | some i =>
    obtain ⟨hl, h1, _⟩ := List.findIdx?_eq_some_iff_getElem.1 e
    exact ⟨i, vs[i], rfl, List.getElem?_eq_getElem hl, by simpa using h1, hl⟩
theorem objI_mem {vs : List Nat} {f : Nat} : 0 ≤ objI vs (f : Int) ↔ f ∈ vs := by
  constructor
  · intro h
    obtain ⟨k, g, _, h1, h2, _⟩ := objI_some h
    obtain rfl : g = f := by omega
    exact List.mem_of_getElem? h1
  · intro h
    rcases Int.lt_or_le (objI vs (f : Int)) 0 with hl | hl
    · exfalso
      unfold objI at hl
      cases e : vs.findIdx? (fun v : Nat => (v : Int) == (f : Int)) with
      | none =>
        rw [List.findIdx?_eq_none_iff] at e
        have := e f h
        simp at this
      | some i => rw [e] at hl; simp at hl; omega
    · exact hl
set_option maxHeartbeats 8000000 in
set_option maxRecDepth 100000 in
theorem come_any (F : Nat → Int) (vs out : List Nat) (ao oo : Option Addr) (ca oc : Nat) (hn : vs.length ≤ 300000) (hon : out.length ≤ 300000) (x : Int) (x0 : 0 ≤ x) (x1 : x < 18446744073709551616) (hp : 0 ≤ ptI x → 0 ≤ objI vs (ptI x)) (w1 w : World) (hL : RowV w1 (.slice ao vs.length ca) vs.length (objsV F vs)) (hb : Below w1.heap.size w1 w) (hO : w.ownsRow w1.heap.size 55 4 (.slice oo out.length oc) out.length (objsV F out)) :
    Calls Tryz.prog 66 #[.slice oo out.length oc, .slice ao vs.length ca, .int .u64 x] w fun ev w' => ∃ oo' oc', ev = .returned (.slice oo' (comeP out x).length oc') ∧ w'.ownsRow w1.heap.size 55 4 (.slice oo' (comeP out x).length oc') (comeP out x).length (objsV F (comeP out x)) ∧ Below w1.heap.size w1 w' := by
  have kp := points_any x x0 x1 w
  have ko := objectAt_any F out oo oc (ptI x) hon w (rowV_own hO)
  have kl := objectAt_any F vs ao ca (ptI x) hn w (hL.below hb)
  obtain ⟨r, hr⟩ : ∃ r, r = comeP out x := ⟨_, rfl⟩
  rw [← hr]
  have HR := toHid hr
  have HO := toHid hO
  have HB := toHid hb
  have HL := toHid hL
  clear hr hO hb hL
  by_cases h1 : 0 ≤ ptI x
  · have hI1 : ¬ ptI x < 0 := by omega
    by_cases h2 : 0 ≤ objI out (ptI x)
    · have hE : r = out := by rw [HR.out]; unfold comeP; rw [if_neg (by omega)]
      subst hE
      go_enter Tryz.func66, Tryz.ntmps66
      go_wp2_with fail
      refine kp.mono ?_
      rintro ev w2 ⟨rfl, hq⟩
      rw [hq]
      clear hq w2
      go_wp2_with fail
      refine ko.mono ?_
      rintro ev w2 ⟨rfl, hq⟩
      rw [hq]
      clear hq w2
      go_wp2_with fail
      go_ret
      exact ⟨oo, oc, rfl, HO.out, HB.out⟩
    · obtain ⟨k, f, hk, hkf, hfx, hkl⟩ := objI_some (hp h1)
      have hE : r = out ++ [f] := by rw [HR.out]; unfold comeP; rw [if_pos ⟨h1, by omega⟩, ← hfx]; simp
      rw [objI_neg h2] at ko
      rw [hk] at kl
      subst hE
      obtain ⟨_, _, e, _, f1⟩ := HL.out
      cases e
      obtain ⟨p1, o1, rfl, l1, g1⟩ := f1 (by omega)
      have HB2 := HB.out
      have d0 : w.cell? ⟨p1, o1 + k * 4, none⟩ = some (.int .i64 (f : Int)) := (HB2.cell (p := ⟨p1, o1 + k * 4, none⟩) l1).trans (g1 (k * 4) _ (objs_at hkf 0 (by omega)))
      have d1 : w.cell? ⟨p1, o1 + k * 4 + 1, none⟩ = some (.int .i64 (F f / 4 % 256)) := (HB2.cell (p := ⟨p1, o1 + k * 4 + 1, none⟩) l1).trans (g1 (k * 4 + 1) _ (objs_at hkf 1 (by omega)))
      have d2 : w.cell? ⟨p1, o1 + k * 4 + 2, none⟩ = some (.int .i64 (F f / 1024 % 16)) := (HB2.cell (p := ⟨p1, o1 + k * 4 + 2, none⟩) l1).trans (g1 (k * 4 + 2) _ (objs_at hkf 2 (by omega)))
      have d3 : w.cell? ⟨p1, o1 + k * 4 + 3, none⟩ = some (.int .i64 (F f / 65536)) := (HB2.cell (p := ⟨p1, o1 + k * 4 + 3, none⟩) l1).trans (g1 (k * 4 + 3) _ (objs_at hkf 3 (by omega)))
      have HV : Hid (objV F f = [.int .i64 (f : Int), .int .i64 (F f / 4 % 256), .int .i64 (F f / 1024 % 16), .int .i64 (F f / 65536)]) := rfl
      have hk0 : (0 : Int) ≤ (k : Int) := by omega
      have hk1 : (k : Int) < (vs.length : Int) := by omega
      have hpl := lt_of_cell d0
      clear g1 f1 hkf hfx hk HB2 HL h2 hp
      generalize F f / 4 % 256 = k1 at *
      generalize F f / 1024 % 16 = k2 at *
      generalize F f / 65536 = k3 at *
      obtain ⟨i0, hi0, hz0, hz1, hz2⟩ := infoObj
      go_enter Tryz.func66, Tryz.ntmps66
      go_wp2_with fail
      refine kp.mono ?_
      rintro ev w2 ⟨rfl, hq⟩
      rw [hq]
      clear hq w2
      go_wp2_with fail
      refine ko.mono ?_
      rintro ev w2 ⟨rfl, hq⟩
      rw [hq]
      clear hq w2
      go_wp2_with (first | (at_builtin; refine wpList_append_lies _ rfl _ _ _ rfl w1.heap.size 55 i0 (.agg #[.int .i64 0, .int .i64 0, .int .i64 0, .int .i64 0]) 4 32 Tryz.underlying50 hi0 hz0 hz1 hz2 rfl (by decide) (.slice oo out.length oc) out.length (objsV F out) rfl (HO.out.alloc _) ⟨w.heap.size, 0, none⟩ 1 1 [.int .i64 (f : Int), .int .i64 k1, .int .i64 k2, .int .i64 k3] rfl rfl (World.news_of_block (cs := #[.int .i64 (f : Int), .int .i64 k1, .int .i64 k2, .int .i64 k3]) (t := 55) (heap_alloc_new _ _)) (by rw [← HV.out]; exact objV_one F f) (by decide) (by unfold maxLen; omega) (by omega) (by have := HB.out.size; simp; omega) _ rfl ?_; intro g' cap' w2 hown2 hgrow2 hat2 hlt2) | (go_at_call 21; refine kl.mono ?_; rintro ev w2 ⟨rfl, hq⟩; rw [hq]; clear hq w2))
      go_ret
      refine ⟨some ⟨g', 0, none⟩, cap', by rw [List.length_append]; rfl, ?_, ?_⟩
      · rw [objsV_snoc, HV.out, List.length_append]
        exact hown2
      · exact (HB.out.alloc HB.out.size _).grown hgrow2 (by have := HB.out.size; simp; omega) (fun k hk => (own_lt2 HO.out k hk).1)
  · have hI1 : ptI x < 0 := by omega
    have hE : r = out := by rw [HR.out]; unfold comeP; rw [if_neg (by omega)]
    subst hE
    go_enter Tryz.func66, Tryz.ntmps66
    go_wp2_with fail
    refine kp.mono ?_
    rintro ev w2 ⟨rfl, hq⟩
    rw [hq]
    clear hq w2
    go_wp2_with fail
    go_ret
    exact ⟨oo, oc, rfl, HO.out, HB.out⟩
end Go.Proofs.YtebhakmladbjlaaGreatDoor
