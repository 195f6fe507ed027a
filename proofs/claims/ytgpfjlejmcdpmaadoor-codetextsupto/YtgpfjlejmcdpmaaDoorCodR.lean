/- Package code: Text of any code, by a walk. -/
import Derived.Test.YtgpfjlejmcdpmaaDoorCodQ
import Derived.Test.YtgpfjlejmcdpmaaDoorCodB
import Derived.Deep.RegionHeld3
namespace Go.Proofs.YtgpfjlejmcdpmaaDoor
open Go.RowKit

/-- A block of one's own, beside the builder. -/
structure FW (w1 : World) (b bm : Nat) (acc : List UInt8) (q : Nat) (cs : Array Value) (t : TypeId) (w : World) : Prop where
  bw : BW w1 b bm acc w
  own : w.heap[q]? = some (.cells cs t)
  qb : q ≠ b
theorem FW.grow {w1 : World} {b bm : Nat} {acc : List UInt8} {q : Nat} {cs : Array Value} {t : TypeId} {w w' : World} (h : FW w1 b bm acc q cs t w) (hb : Below w.heap.size w w') : FW w1 b bm acc q cs t w' :=
  ⟨h.bw.grow hb, (hb.block _ (lt_of_heap h.own)).trans h.own, h.qb⟩
theorem FW.drew {w1 : World} {b bm : Nat} {acc : List UInt8} {q : Nat} {cs : Array Value} {t : TypeId} {w : World} (h : FW w1 b bm acc q cs t w) : FW w1 b bm acc q cs t w.drew := h.grow (Below.refl _ _).drew
theorem FW.alloc {w1 : World} {b bm : Nat} {acc : List UInt8} {q : Nat} {cs : Array Value} {t : TypeId} {w : World} (h : FW w1 b bm acc q cs t w) (o : Obj) : FW w1 b bm acc q cs t (w.alloc o) := h.grow ((Below.refl _ _).alloc (Nat.le_refl _) o)
theorem FW.write {w1 : World} {b bm : Nat} {acc acc' : List UInt8} {q : Nat} {cs : Array Value} {t : TypeId} {w w' : World} (h : FW w1 b bm acc q cs t w) (hbw : BW w1 b bm acc' w') (ho : Lib.OthersKept 5 (some b) w w') (ht : t ≠ 5) : FW w1 b bm acc' q cs t w' := ⟨hbw, others_heap ho h.own h.qb ht, h.qb⟩
theorem FW.cell {w1 : World} {b bm : Nat} {acc : List UInt8} {q : Nat} {cs : Array Value} {t : TypeId} {w : World} (h : FW w1 b bm acc q cs t w) (j : Nat) : w.cell? ⟨q, j, none⟩ = cs[j]? := cell_of_row _ _ j _ _ _ h.own
theorem FW.new {w1 : World} {b bm : Nat} {acc : List UInt8} {w : World} (h : BW w1 b bm acc w) (cs : Array Value) (t : TypeId) : FW w1 b bm acc w.heap.size cs t (w.alloc (.cells cs t)) :=
  ⟨h.grow ((Below.refl _ _).alloc (Nat.le_refl _) _), heap_alloc_new _ _, by have := h.size; omega⟩
theorem FW.six {w1 : World} {b bm : Nat} {acc : List UInt8} {q : Nat} {v0 v1 v2 v3 v4 v5 : Value} {t : TypeId} {w : World} (h : FW w1 b bm acc q #[v0, v1, v2, v3, v4, v5] t w) :
    w.cell? ⟨q, 0, none⟩ = some v0 ∧ w.cell? ⟨q, 1, none⟩ = some v1 ∧ w.cell? ⟨q, 2, none⟩ = some v2 ∧ w.cell? ⟨q, 3, none⟩ = some v3 ∧ w.cell? ⟨q, 4, none⟩ = some v4 := ⟨h.cell 0, h.cell 1, h.cell 2, h.cell 3, h.cell 4⟩
theorem FW.two {w1 : World} {b bm : Nat} {acc : List UInt8} {q : Nat} {v0 v1 : Value} {t : TypeId} {w : World} (h : FW w1 b bm acc q #[v0, v1] t w) :
    w.cell? ⟨q, 0, none⟩ = some v0 ∧ w.cell? ⟨q, 1, none⟩ = some v1 := ⟨h.cell 0, h.cell 1⟩
theorem number_at {n : Int} (h : I64 n) (w : World) (ht : Tabbed w) : Calls Tryd.prog 16 #[.int .i64 n] w fun ev w' => ev = .returned (.string (decB n)) ∧ Below w.heap.size w w' := number_any n h.1 h.2 w ht
theorem format_at {n : Int} (h : I64 n) (w : World) (ht : Tabbed w) : Calls Tryd.prog 19 #[.int .i64 n, .int .i64 10] w fun ev w' => ev = .returned (.string (decB n)) ∧ Below w.heap.size w w' :=
  (format_any n h.1 h.2 w ht).mono fun _ _ ⟨e, k, os, hw⟩ => ⟨e, by rw [hw]; exact Lib.below_grow w.heap.size w (Nat.le_refl _) k os⟩
theorem BW.made {w1 : World} {b bm : Nat} {acc : List UInt8} {w : World} (h : BW w1 b bm acc w) (ws : List ByteArray) (hws : ws.length ≤ 10) (hsz : ∀ x ∈ ws, x.size ≤ 1000000000000) (hlen : acc.length ≤ 100000000000000) :
    Calls Tryd.prog 15 #[.pointer (some ⟨b, 0, none⟩), .slice (some ⟨w.heap.size, 0, none⟩) ws.length ws.length] (w.alloc (.cells (ws.map Value.string).toArray 9)) fun ev w' => ev = .returned (.tuple #[]) ∧ BW w1 b bm (acc ++ (spaced ws ++ [10])) w' ∧ Lib.OthersKept 5 (some b) (w.alloc (.cells (ws.map Value.string).toArray 9)) w' :=
  (h.grow ((Below.refl _ _).alloc (Nat.le_refl _) _)).line w.heap.size ws hws hsz hlen (heap_alloc_new _ _) (by have := h.size; omega)
theorem BW.made2 {w1 : World} {b bm : Nat} {acc : List UInt8} {w : World} (h : BW w1 b bm acc w) (x0 x1 : ByteArray) (h0 : x0.size ≤ 1000000000000) (h1 : x1.size ≤ 1000000000000) (hlen : acc.length ≤ 100000000000000) :
    Calls Tryd.prog 15 #[.pointer (some ⟨b, 0, none⟩), .slice (some ⟨w.heap.size, 0, none⟩) 2 2] (w.alloc (.cells #[.string x0, .string x1] 9)) fun ev w' => ev = .returned (.tuple #[]) ∧ BW w1 b bm (acc ++ (spaced [x0, x1] ++ [10])) w' ∧ Lib.OthersKept 5 (some b) (w.alloc (.cells #[.string x0, .string x1] 9)) w' :=
  h.made [x0, x1] (by simp) (by simp; exact ⟨h0, h1⟩) hlen
theorem BW.made3 {w1 : World} {b bm : Nat} {acc : List UInt8} {w : World} (h : BW w1 b bm acc w) (x0 x1 x2 : ByteArray) (h0 : x0.size ≤ 1000000000000) (h1 : x1.size ≤ 1000000000000) (h2 : x2.size ≤ 1000000000000) (hlen : acc.length ≤ 100000000000000) :
    Calls Tryd.prog 15 #[.pointer (some ⟨b, 0, none⟩), .slice (some ⟨w.heap.size, 0, none⟩) 3 3] (w.alloc (.cells #[.string x0, .string x1, .string x2] 9)) fun ev w' => ev = .returned (.tuple #[]) ∧ BW w1 b bm (acc ++ (spaced [x0, x1, x2] ++ [10])) w' ∧ Lib.OthersKept 5 (some b) (w.alloc (.cells #[.string x0, .string x1, .string x2] 9)) w' :=
  h.made [x0, x1, x2] (by simp) (by simp; exact ⟨h0, h1, h2⟩) hlen
theorem BW.made7 {w1 : World} {b bm : Nat} {acc : List UInt8} {w : World} (h : BW w1 b bm acc w) (x0 x1 x2 x3 x4 x5 x6 : ByteArray) (hsz : ∀ x ∈ [x0, x1, x2, x3, x4, x5, x6], x.size ≤ 1000000000000) (hlen : acc.length ≤ 100000000000000) :
    Calls Tryd.prog 15 #[.pointer (some ⟨b, 0, none⟩), .slice (some ⟨w.heap.size, 0, none⟩) 7 7] (w.alloc (.cells #[.string x0, .string x1, .string x2, .string x3, .string x4, .string x5, .string x6] 9)) fun ev w' => ev = .returned (.tuple #[]) ∧ BW w1 b bm (acc ++ (spaced [x0, x1, x2, x3, x4, x5, x6] ++ [10])) w' ∧ Lib.OthersKept 5 (some b) (w.alloc (.cells #[.string x0, .string x1, .string x2, .string x3, .string x4, .string x5, .string x6] 9)) w' :=
  h.made [x0, x1, x2, x3, x4, x5, x6] (by simp) hsz hlen
theorem field_shape (a t p e f : Int) (st : Bool) (w : World) : (Instr.field 62 (.agg #[.int .i64 a, .int .i64 t, .int .i64 p, .int .i64 e, .int .i64 f, .bool st]) 0).run Tryd.prog w = .ok (.int .i64 a) w := by kernel_rfl
set_option maxHeartbeats 8000000 in
set_option maxRecDepth 100000 in
theorem text_any (qt : ByteArray → ByteArray) (d : CD) (aF aI aS aN : Option Addr) (cF cI cS cN : Nat) (hf : d.Fits) (hlen : (codeB qt d).length ≤ 10000000000000)
    (W : World) (hC : CodeIn W d aF aI aS aN) (hT : Tabbed W) (hqz : ∀ i, i < d.nS → (qt (d.ss i)).size ≤ 1000000000000)
    (hq : ∀ i, i < d.nS → ∀ w, Calls Tryd.prog 20 #[.string (d.ss i)] w fun ev w' => ev = .returned (.string (qt (d.ss i))) ∧ Below w.heap.size w w') :
    Calls Tryd.prog 7 #[.agg #[.slice aF d.nF cF, .slice aI d.nI cI, .slice aS d.nS cS, .slice aN d.nN cN]] W fun ev w' => ev = .returned (.string ⟨(codeB qt d).toArray⟩) ∧ Below W.heap.size W w' := by
  have hn := hf.nF
  have hl : (partF d).length + (partI d).length + (partS qt d).length + (partN d).length ≤ 10000000000000 := by
    simpa [codeB, List.length_append, Nat.add_assoc] using hlen
  obtain ⟨k1, k2, k3⟩ := two_made W (.cells #[.slice aF d.nF cF, .slice aI d.nI cI, .slice aS d.nS cS, .slice aN d.nN cN] 32) (.cells #[.pointer none, .slice none 0 0] 53)
  have hB0 := fresh_builder (W.alloc (.cells #[.slice aF d.nF cF, .slice aI d.nI cI, .slice aS d.nS cS, .slice aN d.nN cN] 32))
  rw [show (W.alloc (.cells #[.slice aF d.nF cF, .slice aI d.nI cI, .slice aS d.nS cS, .slice aN d.nN cN] 32)).heap.size = W.heap.size + 1 by simp] at hB0
  obtain ⟨w1, hw1⟩ : ∃ w1, w1 = (W.alloc (.cells #[.slice aF d.nF cF, .slice aI d.nI cI, .slice aS d.nS cS, .slice aN d.nN cN] 32)).alloc (.cells #[.pointer none, .slice none 0 0] 53) := ⟨_, rfl⟩
  rw [← hw1] at k1 k2 k3 hB0
  have kx := shapes_any w1
  have HW := toHid hw1
  have HC := toHid hC
  have HT := toHid hT
  have HQ := toHid hq
  have HZ := toHid hqz
  have HF := toHid hf
  have HL := toHid hl
  have H1 := toHid k1
  have H3 := toHid k3
  have H0 := toHid hB0
  have hs1 : w1.heap.size = W.heap.size + 1 + 1 := by rw [hw1]; simp
  clear hw1 hC hT hq hqz hf hl hlen k1 k2 k3 hB0
  go_enter Tryd.func7, Tryd.ntmps7
  go_wp2_with fail
  rw [← HW.out]
  refine kx.mono ?_
  rintro ev w2 ⟨bm, rfl, hbm, hk2, hb2⟩
  clear kx
  obtain ⟨b, hb⟩ : ∃ b, b = W.heap.size + 1 := ⟨_, rfl⟩
  rw [← hb] at hs1
  have c0 : w2.cell? ⟨W.heap.size, 0, none⟩ = some (.slice aF d.nF cF) := (hb2.cell (p := ⟨W.heap.size, 0, none⟩) (lt_of_heap H1.out)).trans ((cell_of_row _ _ 0 _ _ _ H1.out).trans rfl)
  have hBW : BW w1 b bm [] w2 := ⟨hb2.mono (by omega), by rw [hb]; exact builderF_below H0.out hb2, hk2, by omega⟩
  have HBW := toHid hBW
  have HB2 := toHid hb2
  have HK2 := toHid hk2
  clear hb2 hk2 hBW
  rw [← hb]
  have HBB := toHid hb
  have HTB : Hid (∀ w, Below b w1 w → Tabbed w) := fun w h => HT.out.below (H3.out.trans (h.mono (by have := HBB.out; omega))) (Nat.le_refl _)
  clear hb
  go_wp2_with fail
  clear c0
  go_loopg [19] (d.nF + 1) (fun gk v19 wr => ∃ i : Nat, gk = d.nF + 1 - i ∧ i ≤ d.nF ∧ v19 = .int .i64 (i : Int) ∧ BW w1 b bm (upto (fun i => funcB i (d.fs i)) i) wr)
  case atStart => exact ⟨0, rfl, Nat.zero_le _, rfl, HBW.out⟩
  case round =>
    obtain ⟨i, hgk, hi, rfl, hbw⟩ := hrel
    have HG := toHid hgk
    clear hgk
    by_cases hlt : i < d.nF
    · have hJ : (i : Int) < (d.nF : Int) := by omega
      have hJ0 : (0 : Int) ≤ (i : Int) := by omega
      have hWb : Below W.heap.size W wr := H3.out.trans (hbw.below.mono (by have := HBB.out; omega))
      obtain ⟨bF, oF, oa, oc, rfl, hFI⟩ := HC.out.func i hlt
      have HFI := toHid hFI
      obtain ⟨c0, c1, c2, c3, c4, c5, _⟩ := hFI.below hWb
      clear hFI
      have hp := (HF.out.nums i hlt).1
      have hl := (HF.out.nums i hlt).2.1
      have hc := (HF.out.nums i hlt).2.2.1
      have hf := (HF.out.nums i hlt).2.2.2
      have hii : I64 (i : Int) := ⟨by omega, by omega⟩
      have hdn := dash_size _ (HF.out.fname i hlt)
      have hal : (upto (fun i => funcB i (d.fs i)) i).length ≤ 100000000000000 := by
        have := upto_le (fun i => funcB i (d.fs i)) hi
        have := HL.out
        unfold partF at this
        omega
      have HBWR := toHid hbw
      clear hbw
      go_wp2_with fail
      have hFW := FW.new HBWR.out #[.string (d.fs i).name, .int .i64 (d.fs i).p, .int .i64 (d.fs i).l, .int .i64 (d.fs i).c, .int .i64 (d.fs i).f, .slice oa (d.fs i).n oc] 39
      obtain ⟨w3, hw3⟩ : ∃ w3, w3 = wr.alloc (.cells #[.string (d.fs i).name, .int .i64 (d.fs i).p, .int .i64 (d.fs i).l, .int .i64 (d.fs i).c, .int .i64 (d.fs i).f, .slice oa (d.fs i).n oc] 39) := ⟨_, rfl⟩
      rw [← hw3] at hFW ⊢
      obtain ⟨q, hq⟩ : ∃ q, q = wr.heap.size := ⟨_, rfl⟩
      rw [← hq] at hFW ⊢
      have hS := hFW.six
      clear hw3 hq c0 c1 c2 c3 c4 c5
      go_region_held3 (fun W => W.cell? ⟨q, 0, none⟩ = some (.string (d.fs i).name) ∧ W.cell? ⟨q, 1, none⟩ = some (.int .i64 (d.fs i).p) ∧ W.cell? ⟨q, 2, none⟩ = some (.int .i64 (d.fs i).l) ∧ W.cell? ⟨q, 3, none⟩ = some (.int .i64 (d.fs i).c) ∧ W.cell? ⟨q, 4, none⟩ = some (.int .i64 (d.fs i).f)) (first | with_reducible exact hFW.six | with_reducible exact hFW.drew.six | exact (hFW.alloc _).six) (first
        | (go_at_call 17; refine (named_any _ _).mono ?_; rintro ev wx ⟨rfl, rfl⟩)
        | (go_at_call 16; refine (number_at (by with_reducible assumption) _ (by first | with_reducible exact HTB.out _ hFW.bw.below | with_reducible exact HTB.out _ hFW.drew.bw.below)).mono ?_; rintro ev wx ⟨rfl, hbx⟩; replace hFW : FW w1 b bm (upto (fun i => funcB i (d.fs i)) i) q #[.string (d.fs i).name, .int .i64 (d.fs i).p, .int .i64 (d.fs i).l, .int .i64 (d.fs i).c, .int .i64 (d.fs i).f, .slice oa (d.fs i).n oc] 39 wx := (by first | with_reducible exact hFW.grow hbx | with_reducible exact hFW.drew.grow hbx); clear hbx)
        | (go_at_call 15; refine (hFW.bw.made7 _ _ _ _ _ _ _ (by simp; exact ⟨by decide, dec_size hii, hdn, dec_size hp, dec_size hl, dec_size hc, dec_size hf⟩) hal).mono ?_; rintro ev wx ⟨rfl, hbx, hox⟩; replace hFW := (hFW.alloc _).write hbx hox (by decide); clear hbx hox))
      have hS5 : wx.cell? ⟨q, 5, none⟩ = some (.slice oa (d.fs i).n oc) := hFW.cell 5
      have HFW := toHid hFW
      have hnO := HF.out.ops i hlt
      clear hS hFW hp hl hc hf hdn hal
      go_wp2_with fail
      clear hS5
      go_loopg [46] ((d.fs i).n + 1) (fun gj v46 wr2 => ∃ j : Nat, gj = (d.fs i).n + 1 - j ∧ j ≤ (d.fs i).n ∧ v46 = .int .i64 (j : Int) ∧ BW w1 b bm (upto (fun i => funcB i (d.fs i)) i ++ (headB i (d.fs i) ++ upto (fun k => opB k ((d.fs i).nm k) ((d.fs i).ar k)) j)) wr2)
      case atStart => exact ⟨0, rfl, Nat.zero_le _, rfl, by rw [upto, List.append_nil]; exact HFW.out.bw⟩
      case round =>
        obtain ⟨j, hgj, hj, rfl, hbw2⟩ := hrel
        have HGJ := toHid hgj
        clear hgj
        by_cases hjl : j < (d.fs i).n
        · have hK : (j : Int) < ((d.fs i).n : Int) := by omega
          have hK0 : (0 : Int) ≤ (j : Int) := by omega
          have hWb2 : Below W.heap.size W wr := H3.out.trans (hbw2.below.mono (by have := HBB.out; omega))
          obtain ⟨ob, oo, rfl, x0, x1⟩ := (HFI.out.below hWb2).op j hjl
          have HBW2 := toHid hbw2
          have hns := HF.out.oname i hlt j hjl
          have har := HF.out.args i hlt j hjl
          have hjj : I64 (j : Int) := ⟨by omega, by omega⟩
          have HAL : Hid ((upto (fun i => funcB i (d.fs i)) i ++ (headB i (d.fs i) ++ upto (fun k => opB k ((d.fs i).nm k) ((d.fs i).ar k)) j)).length ≤ 10000000000000) := by
            show _ ≤ _
            have e1 := upto_lt (fun i => funcB i (d.fs i)) hlt
            have e2 := upto_le (fun k => opB k ((d.fs i).nm k) ((d.fs i).ar k)) hj
            have e3 := HL.out
            have e4 : (funcB i (d.fs i)).length = (headB i (d.fs i)).length + (upto (fun k => opB k ((d.fs i).nm k) ((d.fs i).ar k)) (d.fs i).n).length := by rw [funcB, List.length_append]
            unfold partF at e3
            rw [List.length_append, List.length_append]
            omega
          clear hbw2 hWb2
          go_wp2_with fail
          generalize hgn : (d.fs i).nm j = nm at x0 hns ⊢
          generalize hga : (d.fs i).ar j = ar at x1 har ⊢
          have hF2 := FW.new HBW2.out #[.string nm, .int .i64 ar] 41
          obtain ⟨w4, hw4⟩ : ∃ w4, w4 = wr.alloc (.cells #[.string nm, .int .i64 ar] 41) := ⟨_, rfl⟩
          rw [← hw4] at hF2 ⊢
          obtain ⟨q2, hq2⟩ : ∃ q2, q2 = wr.heap.size := ⟨_, rfl⟩
          rw [← hq2] at hF2 ⊢
          clear hw4 hq2 x0 x1
          have HGN : Hid (opB j ((d.fs i).nm j) ((d.fs i).ar j) = opB j nm ar) := by show _ = _; rw [hgn, hga]
          clear hgn hga
          generalize hacc : upto (fun i => funcB i (d.fs i)) i ++ (headB i (d.fs i) ++ upto (fun k => opB k ((d.fs i).nm k) ((d.fs i).ar k)) j) = acc at hF2 HAL
          refine (wString b b _ ⟨#[32, 32]⟩ _ hF2.bw.bld (by have := HAL.out; have e : (⟨#[32, 32]⟩ : ByteArray).size = 2 := rfl; rw [Lib.byteCells_length, e]; omega) (Nat.le_of_lt hF2.bw.size)).mono ?_
          rintro ev w5 ⟨rfl, hB5, hb5, ho5⟩
          have hF5 : FW w1 b bm (acc ++ [32, 32]) q2 #[.string nm, .int .i64 ar] 41 w5 := hF2.write (hF2.bw.write (by rw [Lib.byteCells_append]; exact hB5) hb5 ho5) ho5 (by decide)
          have hal2 : (acc ++ [32, 32]).length ≤ 100000000000000 := by have := HAL.out; rw [List.length_append]; simp only [List.length_cons, List.length_nil]; omega
          clear hB5 hb5 ho5 hF2
          obtain ⟨s1, s2, s3, s4, s5, hlk⟩ := look_shape hF5.bw.known nm (by unfold maxLen; omega)
          have hfs := field_shape (shapeOf nm).1 s1 s2 s3 s4 s5
          obtain ⟨y0, y1⟩ := hF5.two
          have HACC : Hid (∀ r, acc ++ [32, 32] ++ r = upto (fun i => funcB i (d.fs i)) i ++ (headB i (d.fs i) ++ (upto (fun k => opB k ((d.fs i).nm k) ((d.fs i).ar k)) j ++ ([32, 32] ++ r)))) := fun r => by rw [← hacc]; simp
          have HF5 := toHid hF5
          clear hacc hF5
          cases hA : ((shapeOf nm).1 == 0)
          · have HOP : Hid (opB j nm ar = [32, 32] ++ (spaced [decB (j : Int), nm, decB ar] ++ [10])) := by show _ = _; simp [opB, hasA, hA]
            go_wp2_with fail
            have hF5 := HF5.out
            go_region_held3 (fun W => W.cell? ⟨q2, 0, none⟩ = some (.string nm) ∧ W.cell? ⟨q2, 1, none⟩ = some (.int .i64 ar)) (first | with_reducible exact hF5.two | with_reducible exact hF5.drew.two | exact (hF5.alloc _).two) (first
              | (go_at_call 16; refine (number_at (by with_reducible assumption) _ (by first | with_reducible exact HTB.out _ hF5.bw.below | with_reducible exact HTB.out _ hF5.drew.bw.below)).mono ?_; rintro ev wx ⟨rfl, hbx⟩; replace hF5 : FW w1 b bm (acc ++ [32, 32]) q2 #[.string nm, .int .i64 ar] 41 wx := (by first | with_reducible exact hF5.grow hbx | with_reducible exact hF5.drew.grow hbx); clear hbx)
              | (go_at_call 15; refine (hF5.bw.made3 _ _ _ (dec_size hjj) hns (dec_size har) hal2).mono ?_; rintro ev wx ⟨rfl, hbx, hox⟩; replace hF5 := (hF5.alloc _).write hbx hox (by decide); clear hbx hox))
            have HR : Hid (BW w1 b bm (upto (fun i => funcB i (d.fs i)) i ++ (headB i (d.fs i) ++ upto (fun k => opB k ((d.fs i).nm k) ((d.fs i).ar k)) (j + 1))) wx) := by
              have e : upto (fun k => opB k ((d.fs i).nm k) ((d.fs i).ar k)) (j + 1) = upto (fun k => opB k ((d.fs i).nm k) ((d.fs i).ar k)) j ++ opB j ((d.fs i).nm j) ((d.fs i).ar j) := rfl
              have k := hF5.bw
              rw [HACC.out, ← HOP.out, ← HGN.out, ← e] at k
              exact k
            clear hF5 y0 y1 hlk
            go_wp2_with fail
            go_roundg ((d.fs i).n + 1 - (j + 1))
            case measure => have := HGJ.out; omega
            case rel => exact ⟨j + 1, rfl, by omega, by go_num, HR.out⟩
          · have HOP : Hid (opB j nm ar = [32, 32] ++ (spaced [decB (j : Int), nm] ++ [10])) := by show _ = _; simp [opB, hasA, hA]
            go_wp2_with fail
            have hF5 := HF5.out
            go_region_held3 (fun W => W.cell? ⟨q2, 0, none⟩ = some (.string nm) ∧ W.cell? ⟨q2, 1, none⟩ = some (.int .i64 ar)) (first | with_reducible exact hF5.two | with_reducible exact hF5.drew.two | exact (hF5.alloc _).two) (first
              | (go_at_call 16; refine (number_at (by with_reducible assumption) _ (by first | with_reducible exact HTB.out _ hF5.bw.below | with_reducible exact HTB.out _ hF5.drew.bw.below)).mono ?_; rintro ev wx ⟨rfl, hbx⟩; replace hF5 : FW w1 b bm (acc ++ [32, 32]) q2 #[.string nm, .int .i64 ar] 41 wx := (by first | with_reducible exact hF5.grow hbx | with_reducible exact hF5.drew.grow hbx); clear hbx)
              | (go_at_call 15; refine (hF5.bw.made2 _ _ (dec_size hjj) hns hal2).mono ?_; rintro ev wx ⟨rfl, hbx, hox⟩; replace hF5 := (hF5.alloc _).write hbx hox (by decide); clear hbx hox))
            have HR : Hid (BW w1 b bm (upto (fun i => funcB i (d.fs i)) i ++ (headB i (d.fs i) ++ upto (fun k => opB k ((d.fs i).nm k) ((d.fs i).ar k)) (j + 1))) wx) := by
              have e : upto (fun k => opB k ((d.fs i).nm k) ((d.fs i).ar k)) (j + 1) = upto (fun k => opB k ((d.fs i).nm k) ((d.fs i).ar k)) j ++ opB j ((d.fs i).nm j) ((d.fs i).ar j) := rfl
              have k := hF5.bw
              rw [HACC.out, ← HOP.out, ← HGN.out, ← e] at k
              exact k
            clear hF5 y0 y1 hlk
            go_wp2_with fail
            go_roundg ((d.fs i).n + 1 - (j + 1))
            case measure => have := HGJ.out; omega
            case rel => exact ⟨j + 1, rfl, by omega, by go_num, HR.out⟩
        · obtain rfl : j = (d.fs i).n := by omega
          have HBW2 := toHid hbw2
          clear hbw2
          go_wp2_with fail
          go_roundg (d.nF + 1 - (i + 1))
          case measure => have := HG.out; omega
          case rel => exact ⟨i + 1, rfl, by omega, by go_num, HBW2.out⟩
    · obtain rfl : i = d.nF := by omega
      have hWb : Below W.heap.size W wr := H3.out.trans (hbw.below.mono (by have := HBB.out; omega))
      have cc := fun j => (cell_of_row w1 W.heap.size j _ _ _ H1.out)
      have hbb : W.heap.size < b := by have := HBB.out; omega
      have c1 : wr.cell? ⟨W.heap.size, 1, none⟩ = some (.slice aI d.nI cI) := (hbw.below.cell (p := ⟨W.heap.size, 1, none⟩) hbb).trans ((cc 1).trans rfl)
      have hnI := HF.out.nI
      have HBWR := toHid hbw
      clear hbw hWb HG
      go_wp2_with fail
      clear c1
      go_loopg [78] (d.nI + 1) (fun gk v78 wr => ∃ i : Nat, gk = d.nI + 1 - i ∧ i ≤ d.nI ∧ v78 = .int .i64 (i : Int) ∧ BW w1 b bm (partF d ++ upto (fun i => intB i (d.xs i)) i) wr)
      case atStart => exact ⟨0, rfl, Nat.zero_le _, rfl, by rw [upto, List.append_nil]; exact HBWR.out⟩
      case round =>
        obtain ⟨i, hgk, hi, rfl, hbw⟩ := hrel
        have HG := toHid hgk
        clear hgk
        by_cases hlt : i < d.nI
        · have hJ : (i : Int) < (d.nI : Int) := by omega
          have hJ0 : (0 : Int) ≤ (i : Int) := by omega
          have hWb : Below W.heap.size W wr := H3.out.trans (hbw.below.mono (by have := HBB.out; omega))
          obtain ⟨bI, oI, rfl, x0⟩ := (HC.out.below hWb).ints i hlt
          have hii : I64 (i : Int) := ⟨by omega, by omega⟩
          have hxi := HF.out.ints i hlt
          have hal : (partF d ++ upto (fun i => intB i (d.xs i)) i).length ≤ 100000000000000 := by
            have := upto_le (fun i => intB i (d.xs i)) hi
            have := HL.out
            unfold partI at this
            rw [List.length_append]
            omega
          have HBW2 := toHid hbw
          clear hbw hWb
          go_wp2_with fail
          refine (number_at hii _ (HTB.out _ HBW2.out.below)).mono ?_
          rintro ev w3 ⟨rfl, hb3⟩
          have hbw3 := HBW2.out.grow hb3
          clear hb3 x0
          have HB3 := toHid hbw3
          clear hbw3
          go_wp2_with fail
          refine (format_at hxi _ (HTB.out _ HB3.out.below)).mono ?_
          rintro ev w4 ⟨rfl, hb4⟩
          have hbw4 := HB3.out.grow hb4
          clear hb4
          have HB4 := toHid hbw4
          clear hbw4
          go_wp2_with fail
          refine (HB4.out.made3 _ _ _ (by decide) (dec_size hii) (dec_size hxi) hal).mono ?_
          rintro ev w5 ⟨rfl, hbw5, _⟩
          have HB5 : Hid (BW w1 b bm (partF d ++ upto (fun i => intB i (d.xs i)) (i + 1)) w5) := by
            rw [List.append_assoc] at hbw5
            exact hbw5
          clear hbw5
          go_wp2_with fail
          go_roundg (d.nI + 1 - (i + 1))
          case measure => have := HG.out; omega
          case rel => exact ⟨i + 1, rfl, by omega, by go_num, HB5.out⟩
        · obtain rfl : i = d.nI := by omega
          have c2 : wr.cell? ⟨W.heap.size, 2, none⟩ = some (.slice aS d.nS cS) := (hbw.below.cell (p := ⟨W.heap.size, 2, none⟩) hbb).trans ((cc 2).trans rfl)
          have hnS := HF.out.nS
          have HBWI := toHid hbw
          clear hbw HG
          go_wp2_with fail
          clear c2
          go_loopg [93] (d.nS + 1) (fun gk v93 wr => ∃ i : Nat, gk = d.nS + 1 - i ∧ i ≤ d.nS ∧ v93 = .int .i64 (i : Int) ∧ BW w1 b bm (partF d ++ partI d ++ upto (fun i => strB qt i (d.ss i)) i) wr)
          case atStart => exact ⟨0, rfl, Nat.zero_le _, rfl, by rw [upto, List.append_nil]; exact HBWI.out⟩
          case round =>
            obtain ⟨i, hgk, hi, rfl, hbw⟩ := hrel
            have HG := toHid hgk
            clear hgk
            by_cases hlt : i < d.nS
            · have hJ : (i : Int) < (d.nS : Int) := by omega
              have hJ0 : (0 : Int) ≤ (i : Int) := by omega
              have hWb : Below W.heap.size W wr := H3.out.trans (hbw.below.mono (by have := HBB.out; omega))
              obtain ⟨bS, oS, rfl, x0⟩ := (HC.out.below hWb).strs i hlt
              have hii : I64 (i : Int) := ⟨by omega, by omega⟩
              have hqi := HZ.out i hlt
              have hal : (partF d ++ partI d ++ upto (fun i => strB qt i (d.ss i)) i).length ≤ 100000000000000 := by
                have := upto_le (fun i => strB qt i (d.ss i)) hi
                have := HL.out
                unfold partS at this
                rw [List.length_append, List.length_append]
                omega
              have HBW2 := toHid hbw
              clear hbw hWb
              go_wp2_with fail
              refine (number_at hii _ (HTB.out _ HBW2.out.below)).mono ?_
              rintro ev w3 ⟨rfl, hb3⟩
              have hbw3 := HBW2.out.grow hb3
              clear hb3 x0
              have HB3 := toHid hbw3
              clear hbw3
              go_wp2_with fail
              refine (HQ.out i hlt _).mono ?_
              rintro ev w4 ⟨rfl, hb4⟩
              have hbw4 := HB3.out.grow hb4
              clear hb4
              have HB4 := toHid hbw4
              clear hbw4
              go_wp2_with fail
              refine (HB4.out.made3 _ _ _ (by decide) (dec_size hii) hqi hal).mono ?_
              rintro ev w5 ⟨rfl, hbw5, _⟩
              have HB5 : Hid (BW w1 b bm (partF d ++ partI d ++ upto (fun i => strB qt i (d.ss i)) (i + 1)) w5) := by
                rw [List.append_assoc] at hbw5
                exact hbw5
              clear hbw5
              go_wp2_with fail
              go_roundg (d.nS + 1 - (i + 1))
              case measure => have := HG.out; omega
              case rel => exact ⟨i + 1, rfl, by omega, by go_num, HB5.out⟩
            · obtain rfl : i = d.nS := by omega
              have c3 : wr.cell? ⟨W.heap.size, 3, none⟩ = some (.slice aN d.nN cN) := (hbw.below.cell (p := ⟨W.heap.size, 3, none⟩) hbb).trans ((cc 3).trans rfl)
              have hnN := HF.out.nN
              have HBWS := toHid hbw
              clear hbw HG
              go_wp2_with fail
              clear c3
              go_loopg [108] (d.nN + 1) (fun gk v108 wr => ∃ i : Nat, gk = d.nN + 1 - i ∧ i ≤ d.nN ∧ v108 = .int .i64 (i : Int) ∧ BW w1 b bm (partF d ++ partI d ++ partS qt d ++ upto (fun i => nameB i (d.ns i)) i) wr)
              case atStart => exact ⟨0, rfl, Nat.zero_le _, rfl, by rw [upto, List.append_nil]; exact HBWS.out⟩
              case round =>
                obtain ⟨i, hgk, hi, rfl, hbw⟩ := hrel
                have HG := toHid hgk
                clear hgk
                by_cases hlt : i < d.nN
                · have hJ : (i : Int) < (d.nN : Int) := by omega
                  have hJ0 : (0 : Int) ≤ (i : Int) := by omega
                  have hWb : Below W.heap.size W wr := H3.out.trans (hbw.below.mono (by have := HBB.out; omega))
                  obtain ⟨bN, oN, rfl, x0⟩ := (HC.out.below hWb).names i hlt
                  have hii : I64 (i : Int) := ⟨by omega, by omega⟩
                  have hdn := dash_size _ (HF.out.names i hlt)
                  have hal : (partF d ++ partI d ++ partS qt d ++ upto (fun i => nameB i (d.ns i)) i).length ≤ 100000000000000 := by
                    have := upto_le (fun i => nameB i (d.ns i)) hi
                    have := HL.out
                    unfold partN at this
                    rw [List.length_append, List.length_append, List.length_append]
                    omega
                  have HBW2 := toHid hbw
                  clear hbw hWb
                  go_wp2_with fail
                  refine (number_at hii _ (HTB.out _ HBW2.out.below)).mono ?_
                  rintro ev w3 ⟨rfl, hb3⟩
                  have hbw3 := HBW2.out.grow hb3
                  clear hb3 x0
                  have HB3 := toHid hbw3
                  clear hbw3
                  go_wp2_with fail
                  refine (named_any _ _).mono ?_
                  rintro ev w4 ⟨rfl, rfl⟩
                  go_wp2_with fail
                  refine (HB3.out.made3 _ _ _ (by decide) (dec_size hii) hdn hal).mono ?_
                  rintro ev w5 ⟨rfl, hbw5, _⟩
                  have HB5 : Hid (BW w1 b bm (partF d ++ partI d ++ partS qt d ++ upto (fun i => nameB i (d.ns i)) (i + 1)) w5) := by
                    rw [List.append_assoc] at hbw5
                    exact hbw5
                  clear hbw5
                  go_wp2_with fail
                  go_roundg (d.nN + 1 - (i + 1))
                  case measure => have := HG.out; omega
                  case rel => exact ⟨i + 1, rfl, by omega, by go_num, HB5.out⟩
                · obtain rfl : i = d.nN := by omega
                  have HBE := toHid hbw
                  clear hbw
                  go_wp2_with fail
                  refine (bString b b (codeB qt d) _ HBE.out.bld (Nat.le_of_lt HBE.out.size)).mono ?_
                  rintro ev w9 ⟨rfl, hb9⟩
                  have HWE : Hid (Below W.heap.size W w9) := H3.out.trans ((HBE.out.below.trans hb9).mono (by have := HBB.out; omega))
                  clear hb9
                  go_wp2_with fail
                  go_ret
                  exact ⟨rfl, HWE.out⟩
end Go.Proofs.YtgpfjlejmcdpmaaDoor
