/- Package code: to, by a walk. -/
import Derived.Test.YtgpfjlejmcdpmaaDoorCodD
namespace Go.Proofs.YtgpfjlejmcdpmaaDoor
open Go.RowKit

theorem flow_block {w : World} {b : Nat} {u0 u1 u2 u3 u4 : Value} (h : w.heap[b]? = some (.cells #[u0, u1, u2, u3, u4] 91)) :
    w.cell? ⟨b, 0, none⟩ = some u0 ∧ w.cell? ⟨b, 1, none⟩ = some u1 ∧ w.cell? ⟨b, 2, none⟩ = some u2 ∧ w.cell? ⟨b, 3, none⟩ = some u3 ∧ w.cell? ⟨b, 4, none⟩ = some u4 ∧ ∀ o, w.frozen? ⟨b, o, none⟩ = false := by
  refine ⟨?_, ?_, ?_, ?_, ?_, fun o => by simp [World.frozen?, h]⟩
  · rw [cell_of_row w b 0 _ _ _ h]; rfl
  · rw [cell_of_row w b 1 _ _ _ h]; rfl
  · rw [cell_of_row w b 2 _ _ _ h]; rfl
  · rw [cell_of_row w b 3 _ _ _ h]; rfl
  · rw [cell_of_row w b 4 _ _ _ h]; rfl
theorem FL.wset {w0 : World} {bf bo oo n co bm ga gc : Nat} {A : Nat → Int} {c : Nat} {vW : Value} {k : Nat} {xs : List Value} {w w' : World} (F : FL w0 bf bo oo n co bm ga gc A c vW k xs w) {v' : Value} {k' : Nat} {ys : List Value} (hg : w.grownBy w' vW.ownBlock) (ho : w'.ownsRow w0.heap.size 3 1 v' k' ys) (ha : ∀ g, v'.ownBlock = some g → vW.ownBlock = some g ∨ w.heap.size ≤ g) :
    w'.heap[bf]? = w.heap[bf]? ∧ FL w0 bf bo oo n co bm ga gc A c v' k' ys (w'.setCell ⟨bf, 4, none⟩ v') := by
  obtain ⟨h1, h2, h3, h4, ⟨ca, h5, h6⟩, ⟨cc, h7, h8⟩, h9, h10⟩ := F
  have f : ∀ g, g < w.heap.size → vW.ownBlock ≠ some g → w'.heap[g]? = w.heap[g]? := fun g hl hn => hg.block g hl (fun e => hn e.symm)
  have e1 := f bf (lt_of_heap h4) (fun e => (h10 bf e).1 rfl)
  have e2 := f ga (lt_of_heap h5) (fun e => (h10 ga e).2.1 rfl)
  have e3 := f gc (lt_of_heap h7) (fun e => (h10 gc e).2.2 rfl)
  have hap : ∀ g, v'.ownBlock = some g → g ≠ bf ∧ g ≠ ga ∧ g ≠ gc := fun g hg' => by
    rcases ha g hg' with h | h
    · exact h10 g h
    · have := lt_of_heap h4
      have := lt_of_heap h5
      have := lt_of_heap h7
      omega
  have hbl : Below w0.heap.size w0 w' := ⟨hg.os.trans h1.os, hg.tape.trans h1.tape, hg.output.trans h1.output, Nat.le_trans h1.size hg.size, fun g hk => (f g (Nat.lt_of_lt_of_le hk h1.size) (fun e => by have := (own_lt2 h9 g e).1; omega)).trans (h1.block g hk)⟩
  refine ⟨e1, hbl.setCell h2.1 _, h2, h3, (heap_set_same (e1.trans h4)).trans rfl, ⟨ca, (heap_set _ _ _ _ _ (fun e => h3.1 e.symm)).trans (e2.trans h5), h6⟩, ⟨cc, (heap_set _ _ _ _ _ (fun e => h3.2.1 e.symm)).trans (e3.trans h7), h8⟩, ownsRow_far' ho (fun g hg' => heap_set _ _ _ _ _ (hap g hg').1), hap⟩
set_option maxHeartbeats 4000000 in
set_option maxRecDepth 100000 in
theorem to_ok (w0 : World) (bf bo oo n co bm ga gc : Nat) (A : Nat → Int) (c : Nat) (vW : Value) (k : Nat) (xs : List Value) (hc : c < n) (hk : k ≤ 300000) (v : Int) (hv : v ≤ 1000) (w : World) (F : FL w0 bf bo oo n co bm ga gc A c vW k xs w) :
    Calls Tryd.prog 39 #[.pointer (some ⟨bf, 0, none⟩), .int .i64 (c : Int), .agg #[.int .i64 v, .int .i64 (-1)]] w fun ev w' => ev = .returned (.bool true) ∧ ∃ vW', FL w0 bf bo oo n co bm ga gc (fun j => if j = c then v else A j) (c + 1) vW' (k + 1) (xs ++ [.int .i64 (c : Int)]) w' := by
  obtain ⟨i0, hi0, hz0, hz1, hz2⟩ : ∃ i0, Tryd.prog.info? 3 = some i0 ∧ i0.zero = some (.int .i64 0) ∧ i0.size = 1 ∧ i0.bytes = 8 := ⟨_, rfl, rfl, rfl, rfl⟩
  obtain ⟨wa, hwa⟩ : ∃ wa, wa = w.alloc (.cells #[.int .i64 v, .int .i64 (-1)] 94) := ⟨_, rfl⟩
  have hba : Below w.heap.size w wa := by rw [hwa]; exact (Below.refl _ _).alloc (Nat.le_refl _) _
  have hnb : wa.heap[w.heap.size]? = some (.cells #[.int .i64 v, .int .i64 (-1)] 94) := by rw [hwa]; exact heap_alloc_new w _
  have Fa := F.keep hba
  obtain ⟨bs, hbs⟩ : ∃ bs, bs = w.heap.size := ⟨_, rfl⟩
  rw [← hbs] at hnb
  have hbs1 : bf ≠ bs ∧ ga ≠ bs ∧ gc ≠ bs := by
    obtain ⟨ca, h5, _⟩ := F.st
    obtain ⟨cc, h7, _⟩ := F.cm
    have := lt_of_heap F.flow
    have := lt_of_heap h5
    have := lt_of_heap h7
    omega
  have x0 : wa.cell? ⟨bs, 0, none⟩ = some (.int .i64 v) := (cell_of_row _ _ 0 _ _ _ hnb).trans rfl
  have x1 : wa.cell? ⟨bs, 1, none⟩ = some (.int .i64 (-1)) := (cell_of_row _ _ 1 _ _ _ hnb).trans rfl
  obtain ⟨f0, _, f2, f3, f4, ff⟩ := flow_block Fa.flow
  obtain ⟨cc, hcc, hcs, hcv⟩ := Fa.cm
  have y0 : wa.cell? ⟨gc, c, none⟩ = some (.bool false) := by rw [cell_of_row _ _ _ _ _ _ hcc, hcv c hc, decide_eq_false (by omega)]
  have y1 : wa.frozen? ⟨gc, c, none⟩ = false := by simp [World.frozen?, hcc]
  have hI : (c : Int) < (n : Int) := by omega
  have hI0 : (0 : Int) ≤ (c : Int) := by omega
  have hge : ¬ (n : Int) ≤ (c : Int) := by omega
  have hv1 : ¬ 1000 < v := by omega
  have HF := toHid Fa
  have HNB := toHid hnb
  have HNE := toHid hbs1
  clear F Fa hcc hcv hnb hbs1
  go_enter Tryd.func39, Tryd.ntmps39
  go_upto_region 1 with fail
  rw [← hwa, ← hbs]
  clear hwa hba hbs
  go_upto_region 6 with fail
  obtain ⟨wb, hwb⟩ : ∃ wb, wb = wa.setCell ⟨gc, c, none⟩ (.bool true) := ⟨_, rfl⟩
  rw [← hwb]
  have fb : ∀ g, g ≠ gc → wb.heap[g]? = wa.heap[g]? := fun g hg => by rw [hwb]; exact heap_set _ _ _ _ _ hg
  have g2 := (World.cell?_of_block (a := ⟨bf, 2, none⟩) (fb _ HF.out.ne.2.1)).trans f2
  have z0 := (World.cell?_of_block (a := ⟨bs, 0, none⟩) (fb _ (fun e => HNE.out.2.2 e.symm))).trans x0
  have z1 := (World.cell?_of_block (a := ⟨bs, 1, none⟩) (fb _ (fun e => HNE.out.2.2 e.symm))).trans x1
  obtain ⟨ca, hca, hcs2, _⟩ := HF.out.st
  have hca' := (fb ga HF.out.ne.2.2).trans hca
  obtain ⟨t0, ht0⟩ : ∃ t, ca[c * 2]? = some t := ⟨_, Array.getElem?_eq_getElem (by omega)⟩
  obtain ⟨t1, ht1⟩ : ∃ t, ca[c * 2 + 1]? = some t := ⟨_, Array.getElem?_eq_getElem (by omega)⟩
  have s0 := (cell_of_row _ _ (c * 2) _ _ _ hca').trans ht0
  have s1 := (cell_of_row _ _ (c * 2 + 1) _ _ _ hca').trans ht1
  have s2 : wb.frozen? ⟨ga, c * 2, none⟩ = false := by simp [World.frozen?, hca']
  have s3 : wb.frozen? ⟨ga, c * 2 + 1, none⟩ = false := by simp [World.frozen?, hca']
  have HWB := toHid hwb
  clear hwb fb f0 f2 f3 f4 ff x0 x1 y0 y1 hca hca' ht0 ht1
  go_cut [] from 41 to 47 (fun wx => Hid (FL w0 bf bo oo n co bm ga gc (fun j => if j = c then v else A j) (c + 1) vW k xs wx))
  case first =>
    go_region
    all_goals go_wp2_with fail
    all_goals go_meet
    all_goals (rw [HWB.out]; first | exact (HF.out.mark hc v).keep (Below.refl _ _).drew | exact HF.out.mark hc v)
  case rest =>
    have Fc : FL w0 bf bo oo n co bm ga gc (fun j => if j = c then v else A j) (c + 1) vW k xs wc := hcut
    obtain ⟨aw, cw, rfl⟩ := own_slice Fc.work
    obtain ⟨_, _, _, _, f4, ff⟩ := flow_block Fc.flow
    have lbf := lt_of_heap Fc.flow
    have hba : Below wc.heap.size wc (wc.alloc (.cells #[.int .i64 (c : Int)] 3)) := (Below.refl _ _).alloc (Nat.le_refl _) _
    have HFD := toHid (Fc.keep hba)
    have HSZ : Hid (w0.heap.size ≤ wc.heap.size) := Fc.below.size
    clear hcut Fc g2 z0 z1 s0 s1 s2 s3 hba HF HNB HWB HNE
    go_wp2_with (at_builtin; refine wpList_append_lies _ rfl _ _ _ rfl w0.heap.size 3 i0 (.int .i64 0) 1 8 Tryd.underlying83 hi0 hz0 hz1 hz2 rfl (by decide) (.slice aw k cw) k xs rfl HFD.out.work ⟨wc.heap.size, 0, none⟩ 1 1 [.int .i64 (c : Int)] rfl rfl (World.news_of_block (cs := #[.int .i64 (c : Int)]) (t := 3) (heap_alloc_new _ _)) (fun u hu => by obtain rfl := List.mem_singleton.1 hu; rfl) (by decide) (by unfold maxLen; omega) (by omega) (by have := HSZ.out; simp; omega) _ rfl ?_; intro g' cap' w2 hown2 hgrow2 hat2 hlt2; obtain ⟨e1, hF2⟩ := HFD.out.wset hgrow2 hown2 (fun q hq => by cases hq; exact hat2.imp id (fun h => by rw [h]; exact Nat.le_refl _)); obtain ⟨_, _, _, _, q4, qf⟩ := flow_block (e1.trans HFD.out.flow); have qf4 := qf 4; have HF2 := toHid hF2; clear hown2 hgrow2 hat2 e1 hF2 qf f4 ff)
    go_ret
    exact ⟨rfl, _, HF2.out⟩
end Go.Proofs.YtgpfjlejmcdpmaaDoor
