/- memBack of a memory without IDs; MemNew, by contracts. -/
import Derived.Test.YtopcpeemibmgbaaDoorMemF
namespace Go.Proofs.YtopcpeemibmgbaaDoor
open Go.RowKit

set_option maxHeartbeats 4000000 in
set_option maxRecDepth 100000 in
theorem memBack_none (p : Nat) (h ol c u t ot : Int) (w : World) (hp : p < w.heap.size) (nW nC cW cC cR cK cI : Nat) (aW aC aR aK aI : Option Addr) (xW xC : List Value)
    (lW : xW.length = nW * 1) (fW : 0 < nW → ∃ ad : Addr, aW = some ad ∧ ad.block < w.heap.size ∧ ∀ j v, xW[j]? = some v → w.cell? (ad.add j) = some v) (oW : ∀ v ∈ xW, v.oneCell' = true) (bW : nW ≤ 300000)
    (lC : xC.length = nC * 1) (fC : 0 < nC → ∃ ad : Addr, aC = some ad ∧ ad.block < w.heap.size ∧ ∀ j v, xC[j]? = some v → w.cell? (ad.add j) = some v) (oC : ∀ v ∈ xC, v.oneCell' = true) (bC : nC ≤ 300000)
    (M : MemAt p h ol c (.slice aW nW cW) u t ot (.slice aR 0 cR) (.slice aK 0 cK) (.slice aI 0 cI) (.slice aC nC cC) w) :
    Calls Tryd.prog 10 #[.pointer (some ⟨p, 0, none⟩)] w fun ev w' => ∃ (bx : Nat) (a3 a7 a8 a9 a10 : Option Addr) (k3 k7 k8 k9 k10 : Nat), ev = .returned (.pointer (some ⟨bx, 0, none⟩)) ∧ Below w.heap.size w w' ∧
      MemAt bx h ol c (.slice a3 nW k3) u t ot (.slice a7 0 k7) (.slice a8 0 k8) (.slice a9 0 k9) (.slice a10 nC k10) w' := by
  obtain ⟨c0, c1, c2, c3, c4, c5, c6, c7, c8, c9, c10⟩ := M
  go_enter Tryd.func10, Tryd.ntmps10
  go_upto_region 3 with fail
  go_cut [3] from 5 to 85 (fun v wx => v = .pointer (some ⟨w.heap.size, 0, none⟩) ∧ ∃ q, wx = (w.alloc (.cells #[.int .i64 h, .int .i64 ol, .int .i64 c, .slice aW nW cW, .int .i64 u, .int .i64 t, .int .i64 ot, .slice aR 0 cR, .slice aK 0 cK, .slice none 0 0, .slice aC nC cC] 40)).drewN q)
  case first =>
    go_region_held3 (fun W => W.cell? ⟨p, 0, none⟩ = some (.int .i64 h) ∧ W.cell? ⟨p, 1, none⟩ = some (.int .i64 ol) ∧ W.cell? ⟨p, 2, none⟩ = some (.int .i64 c) ∧ W.cell? ⟨p, 3, none⟩ = some (.slice aW nW cW) ∧ W.cell? ⟨p, 4, none⟩ = some (.int .i64 u) ∧ W.cell? ⟨p, 5, none⟩ = some (.int .i64 t) ∧ W.cell? ⟨p, 6, none⟩ = some (.int .i64 ot) ∧ W.cell? ⟨p, 7, none⟩ = some (.slice aR 0 cR) ∧ W.cell? ⟨p, 8, none⟩ = some (.slice aK 0 cK) ∧ W.cell? ⟨p, 10, none⟩ = some (.slice aC nC cC)) (first | go_keep) (fail)
    all_goals (go_wp2_with fail; go_meet)
    all_goals exact ⟨rfl, 1, rfl⟩
  case rest =>
    obtain ⟨rfl, q, hq⟩ := hcut
    have hb : Below w.heap.size w wc := by rw [hq]; exact below_drewN ((Below.refl _ _).alloc (Nat.le_refl _) _)
    have M1 : MemAt w.heap.size h ol c (.slice aW nW cW) u t ot (.slice aR 0 cR) (.slice aK 0 cK) (.slice none 0 0) (.slice aC nC cC) wc := by
      rw [hq]
      exact (memAt_alloc w h ol c _ u t ot _ _ _ _ _).below (below_drewN (Below.refl (w.heap.size + 1) _)) (by simp)
    have hl : w.heap.size < wc.heap.size := lt_of_cell M1.c0
    clear hq q c0 c1 c2 c3 c4 c5 c6 c7 c8 c10
    have d9 : wc.cell? ⟨p, 9, none⟩ = _ := (hb.cell (p := ⟨p, 9, none⟩) hp).trans c9
    clear c9
    go_wp2_with fail
    refine wp_loop_rounds 1 ?_
    rw [rounds_succ]
    go_wp2_with fail
    have far : ∀ {ao : Option Addr} {n : Nat} {xs : List Value}, (0 < n → ∃ ad : Addr, ao = some ad ∧ ad.block < w.heap.size ∧ ∀ j v, xs[j]? = some v → w.cell? (ad.add j) = some v) → (0 < n → ∃ ad : Addr, ao = some ad ∧ ad.block < wc.heap.size ∧ ∀ j v, xs[j]? = some v → wc.cell? (ad.add j) = some v) := fun H hn => by
      obtain ⟨ad, e1, e2, e3⟩ := H hn
      exact ⟨ad, e1, Nat.lt_trans e2 hl, fun j v hj => (hb.cell (p := ad.add j) (by rw [show (ad.add j).block = ad.block by unfold Addr.add; split <;> rfl]; exact e2)).trans (e3 j v hj)⟩
    refine (own_any w.heap.size 0 h ol c u t ot wc hl aW nW cW xW lW (far fW) oW bW aR 0 cR [] rfl (fun h => absurd h (by omega)) (fun _ h => by cases h) (by omega) aK 0 cK [] rfl (fun h => absurd h (by omega)) (fun _ h => by cases h) (by omega) none 0 0 [] rfl (fun h => absurd h (by omega)) (fun _ h => by cases h) (by omega) aC nC cC xC lC (far fC) oC bC M1.memO).mono ?_
    rintro ev w2 ⟨a3, a7, a8, a9, a10, k3, k7, k8, k9, k10, rfl, hS⟩
    go_wp2_with fail
    go_ret
    exact ⟨_, a3, a7, a8, a9, a10, k3, k7, k8, k9, k10, rfl, hb.trans (hS.1.mono hb.size), hS.2.2.1.mem.1⟩
end Go.Proofs.YtopcpeemibmgbaaDoor
