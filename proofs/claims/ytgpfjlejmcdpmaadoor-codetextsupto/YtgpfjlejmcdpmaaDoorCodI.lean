/- Package code: flows of code that goes straight on, by a walk. -/
import Derived.Test.YtgpfjlejmcdpmaaDoorCodH
namespace Go.Proofs.YtgpfjlejmcdpmaaDoor
open Go.RowKit

/-- Code that goes straight on: what an op is, and with how many values it is come to. -/
structure Goes (nm : Nat → ByteArray) (V a t p : Nat → Int) (j : Nat) (st : Bool) : Prop where
  named : Named (nm j) (a j) (t j) (p j) st
  a8 : a j ≠ 8
  t0 : 0 ≤ t j
  t1 : t j ≤ V j
  p0 : 0 ≤ p j
  p1 : p j ≤ 2
  v1 : V j ≤ 1000
  try_ : ¬ (nm j).toList = [116, 114, 121]
  end_ : ¬ (nm j).toList = [101, 110, 100]
structure Straight (nm : Nat → ByteArray) (V a t p : Nat → Int) (n : Nat) : Prop where
  go : ∀ j, j + 1 < n → Goes nm V a t p j false ∧ V (j + 1) = V j - t j + p j ∧ V (j + 1) ≤ 1000
  stop : Goes nm V a t p (n - 1) true
  start : V 0 = 0
  pos : 0 < n
theorem three_made (w : World) (X Y Z : Obj) : (((w.alloc X).alloc Y).alloc Z).heap[w.heap.size]? = some X ∧ (((w.alloc X).alloc Y).alloc Z).heap[w.heap.size + 1]? = some Y ∧ (((w.alloc X).alloc Y).alloc Z).heap[w.heap.size + 1 + 1]? = some Z ∧ Below w.heap.size w (((w.alloc X).alloc Y).alloc Z) := by
  obtain ⟨h1, h2, h3⟩ := two_made w X Y
  have e : ((w.alloc X).alloc Y).heap.size = w.heap.size + 1 + 1 := by simp
  have k := heap_alloc_new ((w.alloc X).alloc Y) Z
  rw [e] at k
  exact ⟨(heap_alloc_old _ _ (lt_of_heap h1)).trans h1, (heap_alloc_old _ _ (lt_of_heap h2)).trans h2, k, h3.alloc h3.size _⟩
theorem fl_made {w W : World} {bf bo oo n co bm ga gc : Nat} {V : Nat → Int} {cs cb : Array Value} (hb : Below w.heap.size w W) (l1 : w.heap.size ≤ bf) (l2 : w.heap.size ≤ ga) (l3 : w.heap.size ≤ gc) (n1 : bf ≠ ga) (n2 : bf ≠ gc) (n3 : ga ≠ gc) (hf : W.heap[bf]? = some (.cells #[.slice (some ⟨bo, oo, none⟩) n co, .map (some bm), .slice (some ⟨ga, 0, none⟩) n n, .slice (some ⟨gc, 0, none⟩) n n, .slice none 0 0] 91)) (hs : W.heap[ga]? = some (.cells cs 94)) (hcs : cs.size = n * 2) (hc : W.heap[gc]? = some (.cells cb 4)) (hcb : cb.size = n) (hcv : ∀ j, j < n → cb[j]? = some (.bool false)) : FL w bf bo oo n co bm ga gc V 0 (.slice none 0 0) 0 [] W :=
  ⟨hb, ⟨l1, l2, l3⟩, ⟨n1, n2, n3⟩, hf, ⟨cs, hs, hcs, fun j hj => by omega⟩, ⟨cb, hc, hcb, fun j hj => by rw [hcv j hj, decide_eq_false (by omega)]⟩, ⟨rfl, .inl ⟨rfl, rfl⟩⟩, fun g hg => by cases hg⟩
set_option maxHeartbeats 8000000 in
set_option maxRecDepth 100000 in
theorem flows_ok (bo oo n co bm : Nat) (nm : Nat → ByteArray) (V a t p : Nat → Int) (hn : n ≤ 200000) (hS : Straight nm V a t p n) (w : World) (hO : OpsAt w bo oo n nm) (hbo : bo < w.heap.size) (hK : Known bm w) :
    Calls Tryd.prog 29 #[.slice (some ⟨bo, oo, none⟩) n co, .map (some bm)] w fun ev w' => ev = .returned (.bool true) ∧ Below w.heap.size w w' := by
  obtain ⟨cs, hcs, hms⟩ := make_states n (by omega)
  obtain ⟨cb, hcb, hcv, hmb⟩ := make_bools n (by omega)
  have HS := toHid hS
  have HO := toHid hO
  have HK := toHid hK
  have HCV := toHid hcv
  clear hS hO hK hcv
  go_enter Tryd.func29, Tryd.ntmps29
  go_upto_region 1 with fail
  go_cut [5] from 8 to 17 (fun v5 wx => ∃ bf ga gc, v5 = .pointer (some ⟨bf, 0, none⟩) ∧ FL w bf bo oo n co bm ga gc V 0 (.slice none 0 0) 0 [] wx)
  case first =>
    go_region
    all_goals go_wp2_with fail
    all_goals go_meet
    · obtain ⟨k1, k2, k3, k4⟩ := three_made w (.cells cs 94) (.cells cb 4) (.cells #[.slice (some ⟨bo, oo, none⟩) n co, .map (some bm), .slice (some ⟨w.heap.size, 0, none⟩) n n, .slice (some ⟨w.heap.size + 1, 0, none⟩) n n, .slice none 0 0] 91)
      exact ⟨_, w.heap.size, w.heap.size + 1, rfl, fl_made k4.drew (by omega) (by omega) (by omega) (by omega) (by omega) (by omega) k3 k1 hcs k2 hcb HCV.out⟩
    · obtain ⟨k1, k2, k3, k4⟩ := three_made w (.cells cb 4) (.cells cs 94) (.cells #[.slice (some ⟨bo, oo, none⟩) n co, .map (some bm), .slice (some ⟨w.heap.size + 1, 0, none⟩) n n, .slice (some ⟨w.heap.size, 0, none⟩) n n, .slice none 0 0] 91)
      exact ⟨_, w.heap.size + 1, w.heap.size, rfl, fl_made k4.drew (by omega) (by omega) (by omega) (by omega) (by omega) (by omega) k3 k2 hcs k1 hcb HCV.out⟩
  case rest =>
    obtain ⟨bf, ga, gc, rfl, hF⟩ := hcut
    obtain ⟨w1, hw1⟩ : ∃ w1, w1 = wc := ⟨_, rfl⟩
    subst hw1
    have kt := to_ok w bf bo oo n co bm ga gc V 0 (.slice none 0 0) 0 [] HS.out.pos (by omega) 0 (by omega) w1 hF
    clear hF hms hmb
    go_wp2_with fail
    refine kt.mono ?_
    rintro ev w2 ⟨rfl, vW, hF2⟩
    have hF3 : FL w bf bo oo n co bm ga gc V 1 vW 1 [.int .i64 ((0 : Nat) : Int)] w2 := hF2.congr fun j hj => by
      obtain rfl : j = 0 := by omega
      simp [HS.out.start]
    have HF3 := toHid hF3
    clear hF2 hF3 kt
    go_wp2_with fail
    go_loopg [] (n + 1) (fun gk wr => ∃ c vW, (gk = n + 2 - c ∧ 1 ≤ c ∧ c ≤ n ∧ Hid (FL w bf bo oo n co bm ga gc V c vW 1 [.int .i64 ((c - 1 : Nat) : Int)] wr)) ∨ (gk = 0 ∧ c = n ∧ Hid (FL w bf bo oo n co bm ga gc V c vW 0 [] wr)))
    case atStart => exact ⟨1, vW, .inl ⟨by omega, by omega, HS.out.pos, HF3⟩⟩
    case round =>
      obtain ⟨c, vW, ⟨hgk, hc1, hcn, HF⟩ | ⟨hgk, rfl, HF⟩⟩ := hrel
      · obtain ⟨i, rfl⟩ : ∃ i, c = i + 1 := ⟨c - 1, by omega⟩
        have HG := toHid hgk
        obtain ⟨g, cap, rfl, hcap, hcell, hF2⟩ := HF.out.take
        obtain ⟨_, _, _, _, f4, ff⟩ := flow_block HF.out.flow
        have ff4 := ff 4
        rw [Nat.add_sub_cancel] at hcell
        have hcp : ¬ cap = 0 := by omega
        have hcp2 : ¬ cap - 0 = 0 := by omega
        have hcp3 : (0 : Int) ≤ (cap : Int) := by omega
        have HF2 := toHid hF2
        clear hF2 hgk HF3 HF ff
        go_upto_region 8 with fail
        obtain ⟨w3, hw3⟩ : ∃ w3, w3 = wr.setCell ⟨bf, 4, none⟩ (.slice (some ⟨g, 0, none⟩) 0 cap) := ⟨_, rfl⟩
        rw [← hw3]
        rw [← hw3] at HF2
        clear hw3 f4 ff4 hcell
        by_cases hlt : i + 1 < n
        · obtain ⟨G, hV, hV1⟩ := HS.out.go i hlt
          have kf := from_go w bf bo oo n co bm ga gc V i (.slice (some ⟨g, 0, none⟩) 0 cap) 0 [] nm hlt (by omega) (by omega) HO.out hbo HK.out (a i) (t i) (p i) G.named G.a8 G.t0 G.t1 G.p0 G.p1 G.v1 (by rw [← hV]; exact hV1) G.try_ G.end_ w3 HF2.out
          have HV := toHid hV
          clear G hV hV1
          go_wp2_with fail
          refine kf.mono ?_
          rintro ev w4 ⟨rfl, vW', hF4⟩
          have hF5 : FL w bf bo oo n co bm ga gc V (i + 1 + 1) vW' 1 [.int .i64 ((i + 1 + 1 - 1 : Nat) : Int)] w4 := by
            have e : ((i + 1 + 1 - 1 : Nat) : Int) = (i : Int) + 1 := by omega
            rw [e]
            exact hF4.congr fun j hj => by
              by_cases ej : j = i + 1
              · rw [if_pos ej, ej, HV.out]
              · rw [if_neg ej]
          have HF5 := toHid hF5
          clear kf hF4 hF5
          go_wp2_with fail
          go_roundg (n + 2 - (i + 1 + 1))
          case measure => have := HG.out; omega
          case rel => exact ⟨i + 1 + 1, vW', .inl ⟨rfl, by omega, hlt, HF5⟩⟩
        · obtain rfl : n = i + 1 := by omega
          have G := HS.out.stop
          rw [Nat.add_sub_cancel] at G
          have kf := from_stop w bf bo oo (i + 1) co bm ga gc V (i + 1) i (.slice (some ⟨g, 0, none⟩) 0 cap) 0 [] nm (by omega) (by omega) HO.out hbo HK.out (a i) (t i) (p i) G.named G.a8 G.t0 G.t1 G.p0 G.p1 G.v1 G.try_ G.end_ w3 HF2.out
          clear G
          go_wp2_with fail
          refine kf.mono ?_
          rintro ev w4 ⟨rfl, hF4⟩
          have HF4 := toHid hF4
          clear kf hF4
          go_wp2_with fail
          go_roundg 0
          case measure => have := HG.out; omega
          case rel => exact ⟨i + 1, .slice (some ⟨g, 0, none⟩) 0 cap, .inr ⟨rfl, rfl, HF4⟩⟩
      · obtain ⟨aw, cw, rfl⟩ := own_slice HF.out.work
        obtain ⟨_, _, _, _, f4, _⟩ := flow_block HF.out.flow
        have HB : Hid (Below w.heap.size w wr) := HF.out.below
        go_wp2_with fail
        go_ret
        exact ⟨rfl, HB.out⟩
end Go.Proofs.YtgpfjlejmcdpmaaDoor
