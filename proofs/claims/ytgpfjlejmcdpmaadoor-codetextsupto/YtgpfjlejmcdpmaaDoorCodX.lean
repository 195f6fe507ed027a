/- CodeText of the document's answer, by a walk. (Written by a program of ours: code/ctext.py.) -/
import Derived.Test.YtgpfjlejmcdpmaaDoorCodT
import Derived.Test.YtgpfjlejmcdpmaaDoorCodU
import Derived.Test.YtgpfjlejmcdpmaaDoorCodV
import Derived.Test.YtgpfjlejmcdpmaaDoorCodW
import Derived.Deep.RegionHeld3
namespace Go.Proofs.YtgpfjlejmcdpmaaDoor
open Go.RowKit

theorem add_to (a b : ByteArray) (h : a.size + b.size ≤ 9223372036854775807) : ∃ c : ByteArray, c.data.toList = a.data.toList ++ b.data.toList ∧ c.size = a.size + b.size ∧ ∀ wx, (Op.stringOp .add a b).run Tryd.prog wx = .ok (.string c) wx :=
  ⟨a ++ b, by simp, by simp, fun wx => run_string_add_sum (P := Tryd.prog) (w := wx) a b h⟩
theorem dec_at {n : Int} (h : I64 n) (w : World) : Calls Tryd.prog 22 #[.int .i64 n] w fun ev w' => ev = .returned (.string (decB n)) ∧ Below w.heap.size w w' := decimal_any n h.1 h.2 w
/-- A block of one's own; W the world in which the code stands, w1 with the code's own block. -/
structure GW (W w1 : World) (q : Nat) (cs : Array Value) (t : TypeId) (w : World) : Prop where
  far : Below W.heap.size W w
  below : Below w1.heap.size w1 w
  own : w.heap[q]? = some (.cells cs t)
theorem GW.grow {W w1 : World} {q : Nat} {cs : Array Value} {t : TypeId} {w w' : World} (h : GW W w1 q cs t w) (hb : Below w.heap.size w w') : GW W w1 q cs t w' :=
  ⟨h.far.trans (hb.mono h.far.size), h.below.trans (hb.mono h.below.size), (hb.block _ (lt_of_heap h.own)).trans h.own⟩
theorem GW.drew {W w1 : World} {q : Nat} {cs : Array Value} {t : TypeId} {w : World} (h : GW W w1 q cs t w) : GW W w1 q cs t w.drew := h.grow (Below.refl _ _).drew
theorem GW.cell {W w1 : World} {q : Nat} {cs : Array Value} {t : TypeId} {w : World} (h : GW W w1 q cs t w) (j : Nat) : w.cell? ⟨q, j, none⟩ = cs[j]? := cell_of_row _ _ j _ _ _ h.own
theorem GW.old {W w1 : World} {q : Nat} {cs : Array Value} {t : TypeId} {w : World} (h : GW W w1 q cs t w) {p : Addr} {v : Value} (hc : W.cell? p = some v) : w.cell? p = some v := (h.far.cell (p := p) (lt_of_cell hc)).trans hc
theorem GW.six {W w1 : World} {q : Nat} {v0 v1 v2 v3 v4 v5 : Value} {t : TypeId} {w : World} (h : GW W w1 q #[v0, v1, v2, v3, v4, v5] t w) :
    w.cell? ⟨q, 0, none⟩ = some v0 ∧ w.cell? ⟨q, 1, none⟩ = some v1 ∧ w.cell? ⟨q, 2, none⟩ = some v2 ∧ w.cell? ⟨q, 3, none⟩ = some v3 ∧ w.cell? ⟨q, 4, none⟩ = some v4 := ⟨h.cell 0, h.cell 1, h.cell 2, h.cell 3, h.cell 4⟩
theorem GW.five {W w1 : World} {q : Nat} {v0 v1 v2 v3 v4 v5 : Value} {t : TypeId} {w : World} (h : GW W w1 q #[v0, v1, v2, v3, v4, v5] t w) {p : Addr} {v : Value} (hc : W.cell? p = some v) :
    w.cell? ⟨q, 5, none⟩ = some v5 ∧ w.cell? p = some v := ⟨h.cell 5, h.old hc⟩
theorem GW.one {W w1 : World} {q : Nat} {cs : Array Value} {t : TypeId} {w : World} (h : GW W w1 q cs t w) (j : Nat) {u : Value} (hj : cs[j]? = some u) {p : Addr} {v : Value} (hc : W.cell? p = some v) :
    w.cell? ⟨q, j, none⟩ = some u ∧ w.cell? p = some v := ⟨(h.cell j).trans hj, h.old hc⟩
theorem GW.new {W w1 : World} {w : World} (hf : Below W.heap.size W w) (hb : Below w1.heap.size w1 w) (cs : Array Value) (t : TypeId) : GW W w1 w.heap.size cs t (w.alloc (.cells cs t)) :=
  ⟨hf.trans ((Below.refl _ _).alloc hf.size _), hb.trans ((Below.refl _ _).alloc hb.size _), heap_alloc_new _ _⟩
/-- The worlds behind the code's own block. -/
structure GI (W w1 : World) (w : World) : Prop where
  far : Below W.heap.size W w
  below : Below w1.heap.size w1 w
theorem GI.grow {W w1 : World} {w w' : World} (h : GI W w1 w) (hb : Below w.heap.size w w') : GI W w1 w' := ⟨h.far.trans (hb.mono h.far.size), h.below.trans (hb.mono h.below.size)⟩
theorem GI.drew {W w1 : World} {w : World} (h : GI W w1 w) : GI W w1 w.drew := h.grow (Below.refl _ _).drew
theorem GI.two {W w1 : World} {w : World} (h : GI W w1 w) {b0 p : Addr} {u v : Value} (h0 : b0.block < w1.heap.size) (hb : w1.cell? b0 = some u) (hc : W.cell? p = some v) : w.cell? b0 = some u ∧ w.cell? p = some v := ⟨(h.below.cell (p := b0) h0).trans hb, (h.far.cell (p := p) (lt_of_cell hc)).trans hc⟩
theorem len_size (s : ByteArray) : s.data.toList.length = s.size := by rw [Array.length_toList]; rfl
theorem size_of_list {s : ByteArray} {l : List UInt8} (h : s.data.toList = l) : s.size = l.length := by rw [← h, len_size]
theorem dec_few {n : Int} (h : I64 n) : (decB n).size ≤ 100 := itoa_len n h.1 h.2
theorem str_toArray {s : ByteArray} {l : List UInt8} (h : s.data.toList = l) : s = ⟨l.toArray⟩ := by
  apply ByteArray.ext
  rw [← h]
theorem quoted_few (s : ByteArray) (h : s.size ≤ 1048576) : (quotedB s.data.toList).size ≤ 4194306 := by
  have := flat_len s.data.toList
  have := len_size s
  show ([34] ++ s.data.toList.flatMap escB ++ [34]).toArray.size ≤ _
  rw [List.size_toArray, List.length_append, List.length_append]
  simp only [List.length_cons, List.length_nil]
  omega
theorem ne_ne {x : ByteArray} {b : Bool} (h : (!x.toList.isEmpty) = b) : x.toList.isEmpty = !b := by rw [← h]; simp
set_option maxHeartbeats 8000000 in
set_option maxRecDepth 100000 in
theorem codeText_any (d : CD) (aF aI aS aN : Option Addr) (cF cI cS cN : Nat) (hf : d.Fits) (hss : ∀ i, i < d.nS → (d.ss i).size ≤ 1048576) (hlen : (codeB (fun s => quotedB s.data.toList) d).length ≤ 10000000000000)
    (W : World) (hC : CodeIn W d aF aI aS aN) :
    Calls Tryd.prog 9 #[.agg #[.slice aF d.nF cF, .slice aI d.nI cI, .slice aS d.nS cS, .slice aN d.nN cN]] W fun ev w' => ev = .returned (.string ⟨(codeB (fun s => quotedB s.data.toList) d).toArray⟩) ∧ Below W.heap.size W w' := by
  have hn := hf.nF
  have hl : (partF d).length + (partI d).length + (partS (fun s => quotedB s.data.toList) d).length + (partN d).length ≤ 10000000000000 := by
    simpa [codeB, List.length_append, Nat.add_assoc] using hlen
  obtain ⟨w1, hw1⟩ : ∃ w1, w1 = W.alloc (.cells #[.slice aF d.nF cF, .slice aI d.nI cI, .slice aS d.nS cS, .slice aN d.nN cN] 26) := ⟨_, rfl⟩
  have hs1 : w1.heap.size = W.heap.size + 1 := by rw [hw1]; simp
  have HCC : Hid (∀ wr, Below w1.heap.size w1 wr → Below W.heap.size W wr ∧ wr.cell? ⟨W.heap.size, 0, none⟩ = some (.slice aF d.nF cF) ∧ wr.cell? ⟨W.heap.size, 1, none⟩ = some (.slice aI d.nI cI) ∧ wr.cell? ⟨W.heap.size, 2, none⟩ = some (.slice aS d.nS cS) ∧ wr.cell? ⟨W.heap.size, 3, none⟩ = some (.slice aN d.nN cN)) := fun wr hb => by
    rw [hs1, hw1] at hb
    exact ⟨made_below _ _ hb, code_cell hb⟩
  have HW := toHid hw1
  have HC := toHid hC
  have HF := toHid hf
  have HL := toHid hl
  have HS := toHid hss
  clear hw1 hC hf hl hlen hs1 hss
  go_enter Tryd.func9, Tryd.ntmps9
  go_wp2_with fail
  rw [← HW.out]
  go_loopg [3, 4] (d.nF + 1) (fun gk v3 v4 wr => ∃ (i : Nat) (o : ByteArray), gk = d.nF + 1 - i ∧ i ≤ d.nF ∧ v3 = .string o ∧ v4 = .int .i64 (i : Int) ∧ o.data.toList = upto (fun i => funcB i (d.fs i)) i ∧ Below w1.heap.size w1 wr)
  case atStart => exact ⟨0, ⟨#[]⟩, rfl, Nat.zero_le _, rfl, rfl, rfl, Below.refl _ _⟩
  case round =>
    obtain ⟨i, o, hgk, hi, rfl, rfl, ho, hb1⟩ := hrel
    have HG := toHid hgk
    have HO := toHid ho
    clear hgk
    obtain ⟨hbW, x0, x1, x2, x3⟩ := HCC.out _ hb1
    have hos : o.size ≤ 10000000000000 := by
      rw [size_of_list ho]
      have := upto_le (fun i => funcB i (d.fs i)) hi
      have := HL.out
      unfold partF at this
      omega
    clear ho
    by_cases hlt : i < d.nF
    · have hJ : (i : Int) < (d.nF : Int) := by omega
      have hJ0 : (0 : Int) ≤ (i : Int) := by omega
      obtain ⟨bF, oF, oa, oc, rfl, hFI⟩ := HC.out.func i hlt
      have HFI := toHid hFI
      obtain ⟨c0, c1, c2, c3, c4, c5, _⟩ := hFI.below hbW
      clear hFI
      have hp := (HF.out.nums i hlt).1
      have hl := (HF.out.nums i hlt).2.1
      have hc := (HF.out.nums i hlt).2.2.1
      have hf := (HF.out.nums i hlt).2.2.2
      have hii : I64 (i : Int) := ⟨by omega, by omega⟩
      have hdn := dash_size _ (HF.out.fname i hlt)
      have zi := dec_few hii
      have zp := dec_few hp
      have zl := dec_few hl
      have zc := dec_few hc
      have zf := dec_few hf
      have fz0 : (⟨#[102, 117, 110, 99, 32]⟩ : ByteArray).size = 5 := rfl
      obtain ⟨f0, fe0, fy0, fa0⟩ := add_to o ⟨#[102, 117, 110, 99, 32]⟩ (by omega)
      obtain ⟨f1, fe1, fy1, fa1⟩ := add_to f0 (decB (i : Int)) (by omega)
      have fz2 : (⟨#[32]⟩ : ByteArray).size = 1 := rfl
      obtain ⟨f2, fe2, fy2, fa2⟩ := add_to f1 ⟨#[32]⟩ (by omega)
      obtain ⟨f3, fe3, fy3, fa3⟩ := add_to f2 (dashB (d.fs i).name) (by omega)
      have fz4 : (⟨#[32]⟩ : ByteArray).size = 1 := rfl
      obtain ⟨f4, fe4, fy4, fa4⟩ := add_to f3 ⟨#[32]⟩ (by omega)
      obtain ⟨f5, fe5, fy5, fa5⟩ := add_to f4 (decB (d.fs i).p) (by omega)
      have fz6 : (⟨#[32]⟩ : ByteArray).size = 1 := rfl
      obtain ⟨f6, fe6, fy6, fa6⟩ := add_to f5 ⟨#[32]⟩ (by omega)
      obtain ⟨f7, fe7, fy7, fa7⟩ := add_to f6 (decB (d.fs i).l) (by omega)
      have fz8 : (⟨#[32]⟩ : ByteArray).size = 1 := rfl
      obtain ⟨f8, fe8, fy8, fa8⟩ := add_to f7 ⟨#[32]⟩ (by omega)
      obtain ⟨f9, fe9, fy9, fa9⟩ := add_to f8 (decB (d.fs i).c) (by omega)
      have fz10 : (⟨#[32]⟩ : ByteArray).size = 1 := rfl
      obtain ⟨f10, fe10, fy10, fa10⟩ := add_to f9 ⟨#[32]⟩ (by omega)
      obtain ⟨f11, fe11, fy11, fa11⟩ := add_to f10 (decB (d.fs i).f) (by omega)
      have fz12 : (⟨#[10]⟩ : ByteArray).size = 1 := rfl
      obtain ⟨f12, fe12, fy12, fa12⟩ := add_to f11 ⟨#[10]⟩ (by omega)
      have Hf : Hid (f12.data.toList = o.data.toList ++ (headB i (d.fs i))) := by
        show _ = _
        rw [fe12, fe11, fe10, fe9, fe8, fe7, fe6, fe5, fe4, fe3, fe2, fe1, fe0]
        all_goals simp [headB, spaced]
      clear fe0 fe1 fe2 fe3 fe4 fe5 fe6 fe7 fe8 fe9 fe10 fe11 fe12 fy0 fy1 fy2 fy3 fy4 fy5 fy6 fy7 fy8 fy9 fy10 fy11 fy12 fz0 fz2 fz4 fz6 fz8 fz10 fz12
      clear zi zp zl zc zf hdn
      have HB1 := toHid hb1
      have HBW := toHid hbW
      clear hb1 hbW
      go_wp2_with fail
      have hG := GW.new HBW.out HB1.out #[.string (d.fs i).name, .int .i64 (d.fs i).p, .int .i64 (d.fs i).l, .int .i64 (d.fs i).c, .int .i64 (d.fs i).f, .slice oa (d.fs i).n oc] 49
      obtain ⟨w3, hw3⟩ : ∃ w3, w3 = wr.alloc (.cells #[.string (d.fs i).name, .int .i64 (d.fs i).p, .int .i64 (d.fs i).l, .int .i64 (d.fs i).c, .int .i64 (d.fs i).f, .slice oa (d.fs i).n oc] 49) := ⟨_, rfl⟩
      rw [← hw3] at hG ⊢
      obtain ⟨q, hq⟩ : ∃ q, q = wr.heap.size := ⟨_, rfl⟩
      rw [← hq] at hG ⊢
      have hS := hG.six
      clear hw3 hq c0 c1 c2 c3 c4 c5 x0 x1 x2 x3
      go_region_held3 (fun W => W.cell? ⟨q, 0, none⟩ = some (.string (d.fs i).name) ∧ W.cell? ⟨q, 1, none⟩ = some (.int .i64 (d.fs i).p) ∧ W.cell? ⟨q, 2, none⟩ = some (.int .i64 (d.fs i).l) ∧ W.cell? ⟨q, 3, none⟩ = some (.int .i64 (d.fs i).c) ∧ W.cell? ⟨q, 4, none⟩ = some (.int .i64 (d.fs i).f)) (first | with_reducible exact hG.six | with_reducible exact hG.drew.six) (first
        | (go_at_call 23; refine (dash_any _ _).mono ?_; rintro ev wx ⟨rfl, rfl⟩)
        | (go_at_call 22; refine (dec_at (by with_reducible assumption) _).mono ?_; rintro ev wx ⟨rfl, hbx⟩; replace hG : GW W w1 q #[.string (d.fs i).name, .int .i64 (d.fs i).p, .int .i64 (d.fs i).l, .int .i64 (d.fs i).c, .int .i64 (d.fs i).f, .slice oa (d.fs i).n oc] 49 wx := (by first | with_reducible exact hG.grow hbx | with_reducible exact hG.drew.grow hbx); clear hbx))
      have HE1 : Hid (f12.data.toList = upto (fun i => funcB i (d.fs i)) i ++ (headB i (d.fs i) ++ upto (fun k => opB k ((d.fs i).nm k) ((d.fs i).ar k)) 0)) := by
        show _ = _
        rw [upto, List.append_nil, ← HO.out]
        exact Hf.out
      have HGW := toHid hG
      have hnO := HF.out.ops i hlt
      clear hS hG hp hl hc hf Hf fa0 fa1 fa2 fa3 fa4 fa5 fa6 fa7 fa8 fa9 fa10 fa11 fa12
      go_wp2_with fail
      go_loopg [3, 6] ((d.fs i).n + 1) (fun gj v3 v6 wr2 => ∃ (j : Nat) (o : ByteArray), gj = (d.fs i).n + 1 - j ∧ j ≤ (d.fs i).n ∧ v3 = .string o ∧ v6 = .int .i64 (j : Int) ∧ o.data.toList = upto (fun i => funcB i (d.fs i)) i ++ (headB i (d.fs i) ++ upto (fun k => opB k ((d.fs i).nm k) ((d.fs i).ar k)) j) ∧ GW W w1 q #[.string (d.fs i).name, .int .i64 (d.fs i).p, .int .i64 (d.fs i).l, .int .i64 (d.fs i).c, .int .i64 (d.fs i).f, .slice oa (d.fs i).n oc] 49 wr2)
      case atStart => exact ⟨0, _, rfl, Nat.zero_le _, rfl, rfl, HE1.out, HGW.out⟩
      case round =>
        obtain ⟨j, o, hgj, hj, rfl, rfl, ho, hG⟩ := hrel
        have HGJ := toHid hgj
        have HOJ := toHid ho
        clear hgj
        have x5 : wr.cell? ⟨q, 5, none⟩ = some (.slice oa (d.fs i).n oc) := hG.cell 5
        have hos : o.size ≤ 10000000000000 := by
          rw [size_of_list ho]
          have e1 := upto_lt (fun i => funcB i (d.fs i)) hlt
          have e2 := upto_le (fun k => opB k ((d.fs i).nm k) ((d.fs i).ar k)) hj
          have e3 := HL.out
          have e4 : (funcB i (d.fs i)).length = (headB i (d.fs i)).length + (upto (fun k => opB k ((d.fs i).nm k) ((d.fs i).ar k)) (d.fs i).n).length := by rw [funcB, List.length_append]
          unfold partF at e3
          rw [List.length_append, List.length_append]
          omega
        clear ho
        by_cases hjl : j < (d.fs i).n
        · have hK : (j : Int) < ((d.fs i).n : Int) := by omega
          have hK0 : (0 : Int) ≤ (j : Int) := by omega
          obtain ⟨ob, oo, rfl, hnm, har⟩ := HFI.out.op j hjl
          have hns := HF.out.oname i hlt j hjl
          have hai := HF.out.args i hlt j hjl
          have hjj : I64 (j : Int) := ⟨by omega, by omega⟩
          generalize hgn : (d.fs i).nm j = nm at hnm hns
          generalize hga : (d.fs i).ar j = ar at har hai
          have HGN : Hid (opB j ((d.fs i).nm j) ((d.fs i).ar j) = opB j nm ar) := by show _ = _; rw [hgn, hga]
          clear hgn hga
          have zj := dec_few hjj
          have za := dec_few hai
          have gz0 : (⟨#[32, 32]⟩ : ByteArray).size = 2 := rfl
          obtain ⟨g0, ge0, gy0, ga0⟩ := add_to o ⟨#[32, 32]⟩ (by omega)
          obtain ⟨g1, ge1, gy1, ga1⟩ := add_to g0 (decB (j : Int)) (by omega)
          have gz2 : (⟨#[32]⟩ : ByteArray).size = 1 := rfl
          obtain ⟨g2, ge2, gy2, ga2⟩ := add_to g1 ⟨#[32]⟩ (by omega)
          obtain ⟨g3, ge3, gy3, ga3⟩ := add_to g2 (nm) (by omega)
          have Hg : Hid (g3.data.toList = o.data.toList ++ ([32, 32] ++ (decB (j : Int)).data.toList ++ [32] ++ nm.data.toList)) := by
            show _ = _
            rw [ge3, ge2, ge1, ge0]
            all_goals simp []
          clear ge0 ge1 ge2 ge3 gy0 gy1 gy2 gy3 gz0 gz2
          have HSZ : Hid (g3.size ≤ 20000000000000) := by
            show _ ≤ _
            rw [size_of_list Hg.out, List.length_append, len_size]
            have : ([32, 32] ++ (decB (j : Int)).data.toList ++ [32] ++ nm.data.toList : List UInt8).length ≤ 1000000000200 := by
              simp only [List.length_append, List.length_cons, List.length_nil, len_size]
              omega
            omega
          clear hos zj
          go_upto_region 10 with fail
          have hS := hG.five hnm
          clear x5
          go_region_held3 (fun W => W.cell? ⟨q, 5, none⟩ = some (.slice (some ⟨ob, oo, none⟩) (d.fs i).n oc) ∧ W.cell? ⟨ob, oo + j * 2, none⟩ = some (.string nm)) (first | with_reducible exact hG.five hnm | with_reducible exact hG.drew.five hnm) (first
            | (go_at_call 22; refine (dec_at (by with_reducible assumption) _).mono ?_; rintro ev wx ⟨rfl, hbx⟩; replace hG : GW W w1 q #[.string (d.fs i).name, .int .i64 (d.fs i).p, .int .i64 (d.fs i).l, .int .i64 (d.fs i).c, .int .i64 (d.fs i).f, .slice (some ⟨ob, oo, none⟩) (d.fs i).n oc] 49 wx := (by first | with_reducible exact hG.grow hbx | with_reducible exact hG.drew.grow hbx); clear hbx))
          clear hS
          have hal5 := hG.cell 5
          have hal0 := hG.old hnm
          have hal1 := hG.old har
          have HGX := toHid hG
          clear hG
          go_upto_region 12 with (go_at_call 24; refine (shape_any nm ar _).mono ?_; rintro ev w4 ⟨y1, y2, y3, y4, rfl, hy, hb4⟩)
          have hG4 := HGX.out.grow hb4
          have HG4 := toHid hG4
          have z5 := hG4.cell 5
          have z0 := hG4.old hnm
          have z1 := hG4.old har
          clear hb4 hal5 hal0 hal1 hG4
          have hsz := HSZ.out
          cases hA : hasA nm
          · have e3 : y3.toList.isEmpty = true := by rw [ne_ne hy, hA]; rfl
            have kz0 : (⟨#[10]⟩ : ByteArray).size = 1 := rfl
            obtain ⟨k0, ke0, ky0, ka0⟩ := add_to g3 ⟨#[10]⟩ (by omega)
            have Hk : Hid (k0.data.toList = g3.data.toList ++ ([10])) := by
              show _ = _
              rw [ke0]
              all_goals simp []
            clear ke0 ky0 kz0
            have HR : Hid (k0.data.toList = upto (fun i => funcB i (d.fs i)) i ++ (headB i (d.fs i) ++ upto (fun k => opB k ((d.fs i).nm k) ((d.fs i).ar k)) (j + 1))) := by
              show _ = _
              have e : upto (fun k => opB k ((d.fs i).nm k) ((d.fs i).ar k)) (j + 1) = upto (fun k => opB k ((d.fs i).nm k) ((d.fs i).ar k)) j ++ opB j ((d.fs i).nm j) ((d.fs i).ar j) := rfl
              rw [e, HGN.out, Hk.out, Hg.out, HOJ.out]
              simp [opB, hA, spaced]
            clear z0 z1 z5 hsz
            go_wp2_with fail
            go_roundg ((d.fs i).n + 1 - (j + 1))
            case measure => have := HGJ.out; omega
            case rel => exact ⟨j + 1, _, rfl, by omega, rfl, by go_num, HR.out, HG4.out⟩
          · have e3 : y3.toList.isEmpty = false := by rw [ne_ne hy, hA]; rfl
            have hz0 : (⟨#[32]⟩ : ByteArray).size = 1 := rfl
            obtain ⟨h0, he0, hy0, ha0⟩ := add_to g3 ⟨#[32]⟩ (by omega)
            obtain ⟨h1, he1, hy1, ha1⟩ := add_to h0 (decB ar) (by omega)
            have hz2 : (⟨#[10]⟩ : ByteArray).size = 1 := rfl
            obtain ⟨h2, he2, hy2, ha2⟩ := add_to h1 ⟨#[10]⟩ (by omega)
            have Hh : Hid (h2.data.toList = g3.data.toList ++ ([32] ++ (decB ar).data.toList ++ [10])) := by
              show _ = _
              rw [he2, he1, he0]
              all_goals simp []
            clear he0 he1 he2 hy0 hy1 hy2 hz0 hz2
            have HR : Hid (h2.data.toList = upto (fun i => funcB i (d.fs i)) i ++ (headB i (d.fs i) ++ upto (fun k => opB k ((d.fs i).nm k) ((d.fs i).ar k)) (j + 1))) := by
              show _ = _
              have e : upto (fun k => opB k ((d.fs i).nm k) ((d.fs i).ar k)) (j + 1) = upto (fun k => opB k ((d.fs i).nm k) ((d.fs i).ar k)) j ++ opB j ((d.fs i).nm j) ((d.fs i).ar j) := rfl
              rw [e, HGN.out, Hh.out, Hg.out, HOJ.out]
              simp [opB, hA, spaced]
            clear hsz za
            go_wp2_with fail
            refine (dec_at hai _).mono ?_
            rintro ev w5 ⟨rfl, hb5⟩
            have HG5 := toHid (HG4.out.grow hb5)
            clear z0 z1 z5 hb5
            go_wp2_with fail
            go_roundg ((d.fs i).n + 1 - (j + 1))
            case measure => have := HGJ.out; omega
            case rel => exact ⟨j + 1, _, rfl, by omega, rfl, by go_num, HR.out, HG5.out⟩
        · obtain rfl : j = (d.fs i).n := by omega
          have HGE := toHid hG
          clear hG
          go_wp2_with fail
          go_roundg (d.nF + 1 - (i + 1))
          case measure => have := HG.out; omega
          case rel => exact ⟨i + 1, _, rfl, by omega, rfl, by go_num, HOJ.out, HGE.out.below⟩
    · obtain rfl : i = d.nF := by omega
      have hnI := HF.out.nI
      have HB1 := toHid hb1
      clear hb1 hbW hos HG
      go_wp2_with fail
      clear x0 x1 x2 x3
      go_loopg [3, 11] (d.nI + 1) (fun gk v3 v11 wr => ∃ (i : Nat) (o : ByteArray), gk = d.nI + 1 - i ∧ i ≤ d.nI ∧ v3 = .string o ∧ v11 = .int .i64 (i : Int) ∧ o.data.toList = partF d ++ upto (fun i => intB i (d.xs i)) i ∧ Below w1.heap.size w1 wr)
      case atStart => exact ⟨0, _, rfl, Nat.zero_le _, rfl, rfl, by rw [upto, List.append_nil]; exact HO.out, HB1.out⟩
      case round =>
        obtain ⟨i, o, hgk, hi, rfl, rfl, ho, hb1⟩ := hrel
        have HG := toHid hgk
        have HO := toHid ho
        clear hgk
        obtain ⟨hbW, x0, x1, x2, x3⟩ := HCC.out _ hb1
        have hos : o.size ≤ 10000000000000 := by
          rw [size_of_list ho, List.length_append]
          have := upto_le (fun i => intB i (d.xs i)) hi
          have := HL.out
          unfold partI at this
          omega
        clear ho
        by_cases hlt : i < d.nI
        · have hJ : (i : Int) < (d.nI : Int) := by omega
          have hJ0 : (0 : Int) ≤ (i : Int) := by omega
          obtain ⟨bI, oI, rfl, y0⟩ := HC.out.ints i hlt
          have hii : I64 (i : Int) := ⟨by omega, by omega⟩
          have hxi := HF.out.ints i hlt
          have zi := dec_few hii
          have zx := dec_few hxi
          have mz0 : (⟨#[105, 110, 116, 32]⟩ : ByteArray).size = 4 := rfl
          obtain ⟨m0, me0, my0, ma0⟩ := add_to o ⟨#[105, 110, 116, 32]⟩ (by omega)
          obtain ⟨m1, me1, my1, ma1⟩ := add_to m0 (decB (i : Int)) (by omega)
          have mz2 : (⟨#[32]⟩ : ByteArray).size = 1 := rfl
          obtain ⟨m2, me2, my2, ma2⟩ := add_to m1 ⟨#[32]⟩ (by omega)
          obtain ⟨m3, me3, my3, ma3⟩ := add_to m2 (decB (d.xs i)) (by omega)
          have mz4 : (⟨#[10]⟩ : ByteArray).size = 1 := rfl
          obtain ⟨m4, me4, my4, ma4⟩ := add_to m3 ⟨#[10]⟩ (by omega)
          have Hm : Hid (m4.data.toList = o.data.toList ++ (intB i (d.xs i))) := by
            show _ = _
            rw [me4, me3, me2, me1, me0]
            all_goals simp [intB, spaced]
          clear me0 me1 me2 me3 me4 my0 my1 my2 my3 my4 mz0 mz2 mz4
          clear zi zx hos
          have hG : GI W w1 wr := ⟨hbW, hb1⟩
          have HK : Hid (∀ w, GI W w1 w → w.cell? ⟨W.heap.size, 1, none⟩ = some (.slice (some ⟨bI, oI, none⟩) d.nI cI) ∧ w.cell? ⟨bI, oI + i, none⟩ = some (.int .i64 (d.xs i))) := fun w h => ⟨(HCC.out w h.below).2.2.1, (h.far.cell (p := ⟨bI, oI + i, none⟩) (lt_of_cell y0)).trans y0⟩
          clear hb1 hbW
          go_upto_region 18 with fail
          have hS := HK.out _ hG
          clear x0 x1 x2 x3 y0
          go_region_held3 (fun w => w.cell? ⟨W.heap.size, 1, none⟩ = some (.slice (some ⟨bI, oI, none⟩) d.nI cI) ∧ w.cell? ⟨bI, oI + i, none⟩ = some (.int .i64 (d.xs i))) (first | with_reducible exact HK.out _ hG | with_reducible exact HK.out _ hG.drew) (first
            | (go_at_call 22; refine (dec_at (by with_reducible assumption) _).mono ?_; rintro ev wx ⟨rfl, hbx⟩; replace hG : GI W w1 wx := (by first | with_reducible exact hG.grow hbx | with_reducible exact hG.drew.grow hbx); clear hbx))
          have HGE := toHid hG
          have HR : Hid (m4.data.toList = partF d ++ upto (fun i => intB i (d.xs i)) (i + 1)) := by
            show _ = _
            rw [Hm.out, HO.out, List.append_assoc]
            rfl
          clear hG hS
          go_wp2_with fail
          go_roundg (d.nI + 1 - (i + 1))
          case measure => have := HG.out; omega
          case rel => exact ⟨i + 1, _, rfl, by omega, rfl, by go_num, HR.out, HGE.out.below⟩
        · obtain rfl : i = d.nI := by omega
          have hnS := HF.out.nS
          have HB1 := toHid hb1
          clear hb1 hbW hos HG
          go_wp2_with fail
          clear x0 x1 x2 x3
          go_loopg [3, 12] (d.nS + 1) (fun gk v3 v12 wr => ∃ (i : Nat) (o : ByteArray), gk = d.nS + 1 - i ∧ i ≤ d.nS ∧ v3 = .string o ∧ v12 = .int .i64 (i : Int) ∧ o.data.toList = partF d ++ partI d ++ upto (fun i => strB (fun s => quotedB s.data.toList) i (d.ss i)) i ∧ Below w1.heap.size w1 wr)
          case atStart => exact ⟨0, _, rfl, Nat.zero_le _, rfl, rfl, by rw [upto, List.append_nil]; exact HO.out, HB1.out⟩
          case round =>
            obtain ⟨i, o, hgk, hi, rfl, rfl, ho, hb1⟩ := hrel
            have HG := toHid hgk
            have HO := toHid ho
            clear hgk
            obtain ⟨hbW, x0, x1, x2, x3⟩ := HCC.out _ hb1
            have hos : o.size ≤ 10000000000000 := by
              rw [size_of_list ho, List.length_append, List.length_append]
              have := upto_le (fun i => strB (fun s => quotedB s.data.toList) i (d.ss i)) hi
              have := HL.out
              unfold partS at this
              omega
            clear ho
            by_cases hlt : i < d.nS
            · have hJ : (i : Int) < (d.nS : Int) := by omega
              have hJ0 : (0 : Int) ≤ (i : Int) := by omega
              obtain ⟨bS, oS, rfl, y0⟩ := HC.out.strs i hlt
              have hii : I64 (i : Int) := ⟨by omega, by omega⟩
              have hsi := HS.out i hlt
              have zi := dec_few hii
              have zx := quoted_few (d.ss i) hsi
              have nz0 : (⟨#[115, 116, 114, 32]⟩ : ByteArray).size = 4 := rfl
              obtain ⟨n0, ne0, ny0, na0⟩ := add_to o ⟨#[115, 116, 114, 32]⟩ (by omega)
              obtain ⟨n1, ne1, ny1, na1⟩ := add_to n0 (decB (i : Int)) (by omega)
              have nz2 : (⟨#[32]⟩ : ByteArray).size = 1 := rfl
              obtain ⟨n2, ne2, ny2, na2⟩ := add_to n1 ⟨#[32]⟩ (by omega)
              obtain ⟨n3, ne3, ny3, na3⟩ := add_to n2 (quotedB (d.ss i).data.toList) (by omega)
              have nz4 : (⟨#[10]⟩ : ByteArray).size = 1 := rfl
              obtain ⟨n4, ne4, ny4, na4⟩ := add_to n3 ⟨#[10]⟩ (by omega)
              have Hn : Hid (n4.data.toList = o.data.toList ++ (strB (fun s => quotedB s.data.toList) i (d.ss i))) := by
                show _ = _
                rw [ne4, ne3, ne2, ne1, ne0]
                all_goals simp [strB, spaced]
              clear ne0 ne1 ne2 ne3 ne4 ny0 ny1 ny2 ny3 ny4 nz0 nz2 nz4
              clear zi zx hos
              have hG : GI W w1 wr := ⟨hbW, hb1⟩
              have HK : Hid (∀ w, GI W w1 w → w.cell? ⟨W.heap.size, 2, none⟩ = some (.slice (some ⟨bS, oS, none⟩) d.nS cS) ∧ w.cell? ⟨bS, oS + i, none⟩ = some (.string (d.ss i))) := fun w h => ⟨(HCC.out w h.below).2.2.2.1, (h.far.cell (p := ⟨bS, oS + i, none⟩) (lt_of_cell y0)).trans y0⟩
              clear hb1 hbW
              go_upto_region 22 with fail
              have hS := HK.out _ hG
              clear x0 x1 x2 x3 y0
              go_region_held3 (fun w => w.cell? ⟨W.heap.size, 2, none⟩ = some (.slice (some ⟨bS, oS, none⟩) d.nS cS) ∧ w.cell? ⟨bS, oS + i, none⟩ = some (.string (d.ss i))) (first | with_reducible exact HK.out _ hG | with_reducible exact HK.out _ hG.drew) (first
                | (go_at_call 22; refine (dec_at (by with_reducible assumption) _).mono ?_; rintro ev wx ⟨rfl, hbx⟩; replace hG : GI W w1 wx := (by first | with_reducible exact hG.grow hbx | with_reducible exact hG.drew.grow hbx); clear hbx)
                | (go_at_call 25; refine (quoted_fn _ hsi _).mono ?_; rintro ev wx ⟨rfl, hbx⟩; replace hG : GI W w1 wx := (by first | with_reducible exact hG.grow hbx | with_reducible exact hG.drew.grow hbx); clear hbx))
              have HGE := toHid hG
              have HR : Hid (n4.data.toList = partF d ++ partI d ++ upto (fun i => strB (fun s => quotedB s.data.toList) i (d.ss i)) (i + 1)) := by
                show _ = _
                rw [Hn.out, HO.out, List.append_assoc (partF d ++ partI d)]
                rfl
              clear hG hS
              go_wp2_with fail
              go_roundg (d.nS + 1 - (i + 1))
              case measure => have := HG.out; omega
              case rel => exact ⟨i + 1, _, rfl, by omega, rfl, by go_num, HR.out, HGE.out.below⟩
            · obtain rfl : i = d.nS := by omega
              have hnN := HF.out.nN
              have HB1 := toHid hb1
              clear hb1 hbW hos HG
              go_wp2_with fail
              clear x0 x1 x2 x3
              go_loopg [3, 13] (d.nN + 1) (fun gk v3 v13 wr => ∃ (i : Nat) (o : ByteArray), gk = d.nN + 1 - i ∧ i ≤ d.nN ∧ v3 = .string o ∧ v13 = .int .i64 (i : Int) ∧ o.data.toList = partF d ++ partI d ++ partS (fun s => quotedB s.data.toList) d ++ upto (fun i => nameB i (d.ns i)) i ∧ Below w1.heap.size w1 wr)
              case atStart => exact ⟨0, _, rfl, Nat.zero_le _, rfl, rfl, by rw [upto, List.append_nil]; exact HO.out, HB1.out⟩
              case round =>
                obtain ⟨i, o, hgk, hi, rfl, rfl, ho, hb1⟩ := hrel
                have HG := toHid hgk
                have HO := toHid ho
                clear hgk
                obtain ⟨hbW, x0, x1, x2, x3⟩ := HCC.out _ hb1
                have hos : o.size ≤ 10000000000000 := by
                  rw [size_of_list ho, List.length_append, List.length_append, List.length_append]
                  have := upto_le (fun i => nameB i (d.ns i)) hi
                  have := HL.out
                  unfold partN at this
                  omega
                clear ho
                by_cases hlt : i < d.nN
                · have hJ : (i : Int) < (d.nN : Int) := by omega
                  have hJ0 : (0 : Int) ≤ (i : Int) := by omega
                  obtain ⟨bN, oN, rfl, y0⟩ := HC.out.names i hlt
                  have hii : I64 (i : Int) := ⟨by omega, by omega⟩
                  have zx := dash_size _ (HF.out.names i hlt)
                  have zi := dec_few hii
                  have pz0 : (⟨#[110, 97, 109, 101, 32]⟩ : ByteArray).size = 5 := rfl
                  obtain ⟨p0, pe0, py0, pa0⟩ := add_to o ⟨#[110, 97, 109, 101, 32]⟩ (by omega)
                  obtain ⟨p1, pe1, py1, pa1⟩ := add_to p0 (decB (i : Int)) (by omega)
                  have pz2 : (⟨#[32]⟩ : ByteArray).size = 1 := rfl
                  obtain ⟨p2, pe2, py2, pa2⟩ := add_to p1 ⟨#[32]⟩ (by omega)
                  obtain ⟨p3, pe3, py3, pa3⟩ := add_to p2 (dashB (d.ns i)) (by omega)
                  have pz4 : (⟨#[10]⟩ : ByteArray).size = 1 := rfl
                  obtain ⟨p4, pe4, py4, pa4⟩ := add_to p3 ⟨#[10]⟩ (by omega)
                  have Hp : Hid (p4.data.toList = o.data.toList ++ (nameB i (d.ns i))) := by
                    show _ = _
                    rw [pe4, pe3, pe2, pe1, pe0]
                    all_goals simp [nameB, spaced]
                  clear pe0 pe1 pe2 pe3 pe4 py0 py1 py2 py3 py4 pz0 pz2 pz4
                  clear zi zx hos
                  have hG : GI W w1 wr := ⟨hbW, hb1⟩
                  have HK : Hid (∀ w, GI W w1 w → w.cell? ⟨W.heap.size, 3, none⟩ = some (.slice (some ⟨bN, oN, none⟩) d.nN cN) ∧ w.cell? ⟨bN, oN + i, none⟩ = some (.string (d.ns i))) := fun w h => ⟨(HCC.out w h.below).2.2.2.2, (h.far.cell (p := ⟨bN, oN + i, none⟩) (lt_of_cell y0)).trans y0⟩
                  clear hb1 hbW
                  go_upto_region 26 with fail
                  have hS := HK.out _ hG
                  clear x0 x1 x2 x3 y0
                  go_region_held3 (fun w => w.cell? ⟨W.heap.size, 3, none⟩ = some (.slice (some ⟨bN, oN, none⟩) d.nN cN) ∧ w.cell? ⟨bN, oN + i, none⟩ = some (.string (d.ns i))) (first | with_reducible exact HK.out _ hG | with_reducible exact HK.out _ hG.drew) (first
                    | (go_at_call 22; refine (dec_at (by with_reducible assumption) _).mono ?_; rintro ev wx ⟨rfl, hbx⟩; replace hG : GI W w1 wx := (by first | with_reducible exact hG.grow hbx | with_reducible exact hG.drew.grow hbx); clear hbx)
                    | (go_at_call 23; refine (dash_any _ _).mono ?_; rintro ev wx ⟨rfl, rfl⟩))
                  have HGE := toHid hG
                  have HR : Hid (p4.data.toList = partF d ++ partI d ++ partS (fun s => quotedB s.data.toList) d ++ upto (fun i => nameB i (d.ns i)) (i + 1)) := by
                    show _ = _
                    rw [Hp.out, HO.out, List.append_assoc (partF d ++ partI d ++ partS (fun s => quotedB s.data.toList) d)]
                    rfl
                  clear hG hS
                  go_wp2_with fail
                  go_roundg (d.nN + 1 - (i + 1))
                  case measure => have := HG.out; omega
                  case rel => exact ⟨i + 1, _, rfl, by omega, rfl, by go_num, HR.out, HGE.out.below⟩
                · obtain rfl : i = d.nN := by omega
                  have HBE := toHid hbW
                  clear hb1 hbW
                  go_wp2_with fail
                  go_ret
                  exact ⟨ret_str (str_toArray HO.out), HBE.out⟩
end Go.Proofs.YtgpfjlejmcdpmaaDoor
