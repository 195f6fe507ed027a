/- Package tree's writer, whatever it is handed: ranked, by induction on the depth. -/
import Derived.Test.YtajkahckmhipkaaGreatDoorWrtH
import Derived.Test.YtajkahckmhipkaaGreatDoorTreeCToTreeD
namespace Go.Proofs.YtajkahckmhipkaaGreatDoor
open Go.RowKit Go.Lib

set_option maxHeartbeats 4000000 in
set_option maxRecDepth 100000 in
theorem ranked_step {p : Nat} {rk : Value} {w1 : World} {n : Nat} (H : RW p rk w1 n) (HQ : QuoteOK) (HF : FormatOK p rk w1) (R : RKL p rk w1) : RW p rk w1 (n + 1) := by
  intro op z s pa pn pc la ln lc ht least hle w C
  obtain ⟨ta, tn, tc, tm, lost, _, c0, c1, c2, c3, cf⟩ := C.cells
  obtain ⟨_, _, _, _, _, _, hlc, hln, _⟩ := id ht
  have f2 := cf 2
  have f3 := cf 3
  have hp := C.lt
  obtain ⟨z', hz'⟩ : ∃ z', IntKind.i64.wrap (tm + 1) = z' := ⟨_, rfl⟩
  obtain ⟨wC, hwC⟩ : ∃ wC, wC = (w.setCell ⟨p, 2, none⟩ (.int .i64 z')).alloc (.cells #[.string op, .int .i64 z, .string s, .slice pa pn pc, .slice la ln lc] 71) := ⟨_, rfl⟩
  have hWC : WX p rk w1 w wC := by rw [hwC]; exact ((WX.start C).count _).alloc _
  have hq : wC.heap[w.heap.size]? = some (.cells #[.string op, .int .i64 z, .string s, .slice pa pn pc, .slice la ln lc] 71) := by
    have h := heap_alloc_new (w.setCell ⟨p, 2, none⟩ (.int .i64 z')) (.cells #[.string op, .int .i64 z, .string s, .slice pa pn pc, .slice la ln lc] 71)
    have hs : (w.setCell ⟨p, 2, none⟩ (.int .i64 z')).heap.size = w.heap.size := by simp [World.setCell]
    rw [hs] at h
    rw [hwC]
    exact h
  have HK : Hid (∀ w', WX p rk w1 wC w' → w'.cell? ⟨w.heap.size, 0, none⟩ = some (.string op) ∧ w'.cell? ⟨w.heap.size, 1, none⟩ = some (.int .i64 z) ∧ w'.cell? ⟨w.heap.size, 2, none⟩ = some (.string s) ∧ w'.cell? ⟨w.heap.size, 3, none⟩ = some (.slice pa pn pc) ∧ w'.cell? ⟨w.heap.size, 4, none⟩ = some (.slice la ln lc)) := fun w' h => let e := expr_block (h.block hq (by omega) (by decide)); ⟨e.1, e.2.1, e.2.2.1, e.2.2.2.1, e.2.2.2.2.1⟩
  have HWC := toHidP hwC
  have HCC := toHidP hWC
  have HB := toHidP (fun (own : Nat) (ho : own ≤ 8) (hl : partsN op ≤ ln) (w2 : World) (C2 : WT p rk w1 w2) => bare_wt H HQ HF ht hl own ho w2 C2)
  have HR := toHidP (fun (w2 : World) (C2 : WT p rk w1 w2) => rankOf_any op w2 C2 R)
  have hn8 : rankN op ≤ 8 := rankP_le op 8 0 (by omega)
  clear H HQ HF R ht C cf hwC hWC hq
  go_enter Tryz.func56, Tryz.ntmps56
  go_wp2_with fail
  by_cases hbig : (6000 : Int) < z'
  · go_quiet ((go_at_call 82; exact Calls.quiet_of_same (parts_any _ _)))
    rw [← HWC.out]
    obtain ⟨wD, hwD⟩ : ∃ wD, wD = wC.drewN nq := ⟨_, rfl⟩
    have HD : Hid (WX p rk w1 w wD) := by show WX _ _ _ _ _; rw [hwD]; exact HCC.out.drewN
    rw [← hwD]
    obtain ⟨ta', tn', tc', tm', lost', _, d0, d1, d2, d3, df⟩ := HD.out.wt.cells
    have df3 := df 3
    have HL := toHidP (HD.out.lose true)
    clear df hwD c0 c1 c2 c3 f2 f3
    go_wp2_with fail
    refine bodyPost_ret (results_none rfl _ _ _) rfl ?_
    exact ⟨rfl, HL.out⟩
  by_cases hsm : (ln : Int) < (partsN op : Int)
  · go_quiet ((go_at_call 82; exact Calls.quiet_of_same (parts_any _ _)))
    rw [← HWC.out]
    obtain ⟨wD, hwD⟩ : ∃ wD, wD = wC.drewN nq := ⟨_, rfl⟩
    have HD : Hid (WX p rk w1 w wD) := by show WX _ _ _ _ _; rw [hwD]; exact HCC.out.drewN
    rw [← hwD]
    obtain ⟨ta', tn', tc', tm', lost', _, d0, d1, d2, d3, df⟩ := HD.out.wt.cells
    have df3 := df 3
    have HL := toHidP (HD.out.lose true)
    clear df hwD c0 c1 c2 c3 f2 f3
    go_wp2_with fail
    refine bodyPost_ret (results_none rfl _ _ _) rfl ?_
    exact ⟨rfl, HL.out⟩
  · have hl : partsN op ≤ ln := by omega
    go_quiet ((go_at_call 82; exact Calls.quiet_of_same (parts_any _ _)))
    rw [← HWC.out]
    obtain ⟨wD, hwD⟩ : ∃ wD, wD = wC.drewN nq := ⟨_, rfl⟩
    have hDC : WX p rk w1 wC wD := by rw [hwD]; exact (WX.start HCC.out.wt).drewN
    have HDC := toHidP hDC
    rw [← hwD]
    obtain ⟨ta', tn', tc', tm', lost', _, d0, d1, d2, d3, df⟩ := hDC.wt.cells
    obtain ⟨x0, x1, x2, x3, x4⟩ := HK.out wD hDC
    clear df hwD hDC c0 c1 c2 c3 f2 f3
    cases lost' with
    | true =>
      go_wp2_with fail
      refine bodyPost_ret (results_none rfl _ _ _) rfl ?_
      exact ⟨rfl, HCC.out.trans HDC.out⟩
    | false =>
      go_wp2_with fail
      refine (HR.out wD HDC.out.wt).mono ?_
      rintro ev w2 ⟨rfl, rfl⟩
      by_cases hge : (least : Int) ≤ (rankN op : Int)
      · go_wp2_with fail
        refine (HB.out (rankN op) hn8 hl w2 HDC.out.wt).mono ?_
        rintro ev w3 ⟨rfl, h3⟩
        have H3 := toHidP (HCC.out.trans (HDC.out.trans h3))
        clear h3 x0 x1 x2 x3 x4 d0 d1 d2 d3
        go_wp2_with fail
        refine bodyPost_ret (results_none rfl _ _ _) rfl ?_
        exact ⟨rfl, H3.out⟩
      · go_wp2_with fail
        refine (put1 HDC.out ⟨#[40]⟩ (by decide)).mono ?_
        rintro ev w3 ⟨rfl, h3⟩
        have H3 := toHidP h3
        clear x0 x1 x2 x3 x4 d0 d1 d2 d3
        obtain ⟨x0, x1, x2, x3, x4⟩ := HK.out w3 h3
        clear h3
        go_wp2_with fail
        refine (HB.out (rankN op) hn8 hl w3 H3.out.wt).mono ?_
        rintro ev w4 ⟨rfl, h4⟩
        have H4 := toHidP (H3.out.trans h4)
        clear h4 x0 x1 x2 x3 x4
        go_wp2_with fail
        refine (put1 H4.out ⟨#[41]⟩ (by decide)).mono ?_
        rintro ev w5 ⟨rfl, h5⟩
        have H5 := toHidP (HCC.out.trans h5)
        clear h5
        go_wp2_with fail
        go_end0
        exact ⟨rfl, H5.out⟩
/-- ranked writes every term. -/
theorem ranked_all {p : Nat} {rk : Value} {w1 : World} (HQ : QuoteOK) (HF : FormatOK p rk w1) (R : RKL p rk w1) : ∀ n, RW p rk w1 n
  | 0 => fun _ _ _ _ _ _ _ _ _ ht => ht.elim
  | n + 1 => ranked_step (ranked_all HQ HF R n) HQ HF R
end Go.Proofs.YtajkahckmhipkaaGreatDoor

/- Package tree: ahead, by a contract over what it is handed. -/
namespace Go.Proofs.YtajkahckmhipkaaGreatDoor
open Go.RowKit

def pAhead (l : List (ByteArray × ByteArray × Nat)) (mark : ByteArray) (k dp : Nat) (oR oW : Out (DataW Unit)) : Out (DataW Unit) := bif markAt l k [mark] then (if dp = 12 then .error (k, true) else oW) else oR
set_option maxHeartbeats 2000000 in
set_option maxRecDepth 100000 in
theorem ahead_any (K : FuncId) (caps : Array Value) (hE : ∀ args w, (callFunc K args).run Tryz.prog w = .ok (.enter K args) w) {p g cap : Nat} {rk : Value} {l : List (ByteArray × ByteArray × Nat)} {k bl dp : Nat} {a0 a1 : Addr} {oR oW : Out (DataW Unit)} (mark : ByteArray) (rank : Nat) (hrank : rank ≤ 8) (hk : k < l.length) (hl : l.length ≤ 100000) (hen : Ended l) (hdp : dp ≤ 12) (Capt : World → Prop) (hCapt : ∀ w w', Capt w → Keeps p w w' → Capt w')
    (hR : ReadsE 93 #[.pointer (some ⟨p, 0, none⟩), .int .i64 ((rank : Int) + 1)] p g cap rk l k bl dp a0 a1 oR)
    (hW : k + 1 < l.length → dp < 12 → ∀ w2, RD w2 p g cap rk l (k + 1) bl (dp + 1) → TErr p a0 a1 w2 → RK p rk w2 → Capt w2 → Calls Tryz.prog K caps w2 fun ev w' => PostE (fun b => w2.heap.size ≤ b) p g cap rk l (k + 1) bl (dp + 1) a0 a1 w2 oW ev w') :
    ∀ w, RD w p g cap rk l k bl dp → TErr p a0 a1 w → RK p rk w → Capt w → Calls Tryz.prog 105 #[.pointer (some ⟨p, 0, none⟩), .string mark, .int .i64 (rank : Int), .func (.func K) #[] caps] w fun ev w' => PostE (fun b => w.heap.size ≤ b) p g cap rk l k bl dp a0 a1 w (pAhead l mark k dp oR oW) ev w' := by
  intro w R E X C
  have hpl := lt_of_heap R.blk
  have hgl := R.gl
  have hb0 : Below w.heap.size w (w.alloc (.cells #[.string ⟨#[]⟩, .int .i64 0, .string ⟨#[]⟩, .slice none 0 0, .slice none 0 0] 71)) := (Below.refl _ _).alloc (Nat.le_refl _) _
  have hB0 := heap_alloc_new w (.cells #[.string ⟨#[]⟩, .int .i64 0, .string ⟨#[]⟩, .slice none 0 0, .slice none 0 0] 71)
  have hsz : (w.alloc (.cells #[.string ⟨#[]⟩, .int .i64 0, .string ⟨#[]⟩, .slice none 0 0, .slice none 0 0] 71)).heap.size = w.heap.size + 1 := by simp
  have hb1 : Below w.heap.size w ((w.alloc (.cells #[.string ⟨#[]⟩, .int .i64 0, .string ⟨#[]⟩, .slice none 0 0, .slice none 0 0] 71)).alloc (.cells #[.string mark] 9)) := hb0.alloc (by omega) _
  have K1 : Keeps p w ((w.alloc (.cells #[.string ⟨#[]⟩, .int .i64 0, .string ⟨#[]⟩, .slice none 0 0, .slice none 0 0] 71)).alloc (.cells #[.string mark] 9)) := Keeps.of hb1 (by omega)
  have R1 := R.more hb1
  have hB1 : ((w.alloc (.cells #[.string ⟨#[]⟩, .int .i64 0, .string ⟨#[]⟩, .slice none 0 0, .slice none 0 0] 71)).alloc (.cells #[.string mark] 9)).heap[w.heap.size]? = _ := (Below.heap_alloc _ _ _ (by omega)).trans hB0
  have hT1 := ts_one (w.alloc (.cells #[.string ⟨#[]⟩, .int .i64 0, .string ⟨#[]⟩, .slice none 0 0, .slice none 0 0] 71)) mark
  rw [hsz] at hT1
  obtain ⟨x, hx⟩ : ∃ x, l[k]? = some x := ⟨l[k], by simp [hk]⟩
  have HX := toHid hx
  obtain ⟨m, hm⟩ : ∃ m, markB x [mark] = m := ⟨_, rfl⟩
  have hma : markAt l k [mark] = m := (markAt_of hx [mark]).trans hm
  unfold pAhead
  rw [hma]
  have HM := toHid hm
  have HRR := toHid hR
  have HWW := toHid hW
  have HCC := toHid hCapt
  clear R hm hma hR hW hCapt
  cases m
  · simp only [cond_false]
    cases oR with
    | error y =>
      go_enter Tryz.func105, Tryz.ntmps105
      go_wp2_with fail
      refine (isMark_any R1 hx [mark] (w.heap.size + 1) 0 1 (by simp) hT1).mono ?_
      rintro ev w2 ⟨rfl, hb2⟩
      rw [HM.out]
      have R2 := R1.more hb2
      have K2 : Keeps p w w2 := K1.trans (Keeps.of hb2 (by have := lt_of_heap R1.blk; omega))
      have hB2 := (hb2.block _ (lt_of_heap hB1)).trans hB1
      have hs2 := lt_of_heap hB2
      have E2 := E.keeps K2
      have X2 := X.keeps K2
      have C2 := HCC.out w w2 C K2
      have HC := toHid (HRR.out w2 R2 E2 X2)
      clear R1 K1 hB1 hT1 hx C C2
      go_wp2_with fail
      refine HC.out.mono ?_
      intro ev w3 hP
      unfold PostE at hP
      obtain ⟨t, g1, b, rfl, g2⟩ := hP
      have HF : Hid (faultAt l p a0 a1 w y (.panicked [{ v := .iface 58 (.pointer (some ⟨b, 0, none⟩)), recovered := false }]) w3) := faultAt.after K2.below ⟨t, g1, b, rfl, g2⟩
      clear g1 g2 R2 K2 HC hB2
      go_wp2_with fail
      exact ⟨rfl, HF.out⟩
    | ok y =>
      obtain ⟨e, k'⟩ := y
      go_enter Tryz.func105, Tryz.ntmps105
      go_wp2_with fail
      refine (isMark_any R1 hx [mark] (w.heap.size + 1) 0 1 (by simp) hT1).mono ?_
      rintro ev w2 ⟨rfl, hb2⟩
      rw [HM.out]
      have R2 := R1.more hb2
      have K2 : Keeps p w w2 := K1.trans (Keeps.of hb2 (by have := lt_of_heap R1.blk; omega))
      have hB2 := (hb2.block _ (lt_of_heap hB1)).trans hB1
      have hs2 := lt_of_heap hB2
      have E2 := E.keeps K2
      have X2 := X.keeps K2
      have C2 := HCC.out w w2 C K2
      have HC := toHid (HRR.out w2 R2 E2 X2)
      clear R1 K1 hB1 hT1 hx C C2
      go_wp2_with fail
      refine HC.out.mono ?_
      intro ev w3 hP
      unfold PostE at hP
      obtain ⟨c0, c1, c2, c3, c4, rfl, hrep, R3, K3, hk3, hk3l⟩ := hP
      obtain ⟨op, z, sx, pa, pn, pc, la, ln, lc, rfl, rfl, rfl, rfl, rfl⟩ := hrep.form
      have hB3 := (K3.block w.heap.size (by omega) (lt_of_heap hB2)).trans hB2
      have hs1 := lt_of_heap hB2
      obtain ⟨t0, t1, t2, t3, t4, tf⟩ := expr_block hB3
      have tf0 := tf 0
      have tf1 := tf 1
      have tf2 := tf 2
      have tf3 := tf 3
      have tf4 := tf 4
      have hp3 := lt_of_heap R3.blk
      have H3 := toHid (And.intro hrep (And.intro R3 (And.intro (K2.trans K3) hB3)))
      have hw1 := K2.below.size
      clear R3 K3 hrep hB3 tf HC R2 K2 hB2
      go_wp2_with fail
      obtain ⟨hrep, R3, K3, hB3⟩ := H3.out
      obtain ⟨f1, f2, f3, f4⟩ := laid5 hrep R3 K3 hB3 (by omega) (by omega) (by omega) (by omega) (.string op) (.int .i64 z) (.string sx) (.slice pa pn pc) (.slice la ln lc)
      refine bodyPost_ret (results_expr _ 8 rfl _ _ w.heap.size _ _ _ _ _ rfl f4) rfl ?_
      exact ⟨_, _, _, _, _, rfl, f1.same (fun _ _ _ => rfl) (fun b h _ => by omega), f2, f3, by omega, hk3l⟩
  · simp only [cond_true]
    have hk1 := hen.next HX.out HM.out
    by_cases h12 : dp = 12
    · rw [if_pos h12]
      subst h12
      go_enter Tryz.func105, Tryz.ntmps105
      go_wp2_with fail
      refine (isMark_any R1 hx [mark] (w.heap.size + 1) 0 1 (by simp) hT1).mono ?_
      rintro ev w2 ⟨rfl, hb2⟩
      rw [HM.out]
      have R2 := R1.more hb2
      have K2 : Keeps p w w2 := K1.trans (Keeps.of hb2 (by have := lt_of_heap R1.blk; omega))
      have hB2 := (hb2.block _ (lt_of_heap hB1)).trans hB1
      have hs2 := lt_of_heap hB2
      have E2 := E.keeps K2
      have X2 := X.keeps K2
      have C2 := HCC.out w w2 C K2
      have HC := toHid (deeper_bound (.func (.func K) #[] caps) hk w2 R2 E2)
      clear R1 K1 hB1 hT1 hx C C2
      go_wp2_with fail
      refine HC.out.mono ?_
      intro ev w3 hP
      obtain ⟨t, g1, b, rfl, g2⟩ := hP
      have HF : Hid (faultAt l p a0 a1 w (k, true) (.panicked [{ v := .iface 58 (.pointer (some ⟨b, 0, none⟩)), recovered := false }]) w3) := faultAt.after K2.below ⟨t, g1, b, rfl, g2⟩
      clear g1 g2 R2 K2 HC hB2
      go_wp2_with fail
      exact ⟨rfl, HF.out⟩
    · rw [if_neg h12]
      have hd : dp < 12 := by omega
      cases oW with
      | error y =>
        go_enter Tryz.func105, Tryz.ntmps105
        go_wp2_with fail
        refine (isMark_any R1 hx [mark] (w.heap.size + 1) 0 1 (by simp) hT1).mono ?_
        rintro ev w2 ⟨rfl, hb2⟩
        rw [HM.out]
        have R2 := R1.more hb2
        have K2 : Keeps p w w2 := K1.trans (Keeps.of hb2 (by have := lt_of_heap R1.blk; omega))
        have hB2 := (hb2.block _ (lt_of_heap hB1)).trans hB1
        have hs2 := lt_of_heap hB2
        have E2 := E.keeps K2
        have X2 := X.keeps K2
        have C2 := HCC.out w w2 C K2
        have HC := toHid (deeper_go K caps hE hk1 hl hd w2 (fun b => w2.heap.size < b) (by omega) (by have := lt_of_heap R2.blk; omega) (.error y) (fun w5 R5 K5 hs5 E5 => (HWW.out hk1 hd w5 R5 E5 (X2.keeps K5) (HCC.out w2 w5 C2 K5)).mono (fun ev w' h => h)) R2 E2)
        clear R1 K1 hB1 hT1 hx C C2
        go_wp2_with fail
        refine HC.out.mono ?_
        intro ev w3 hP
        unfold PostE at hP
        obtain ⟨t, g1, b, rfl, g2⟩ := hP
        have HF : Hid (faultAt l p a0 a1 w y (.panicked [{ v := .iface 58 (.pointer (some ⟨b, 0, none⟩)), recovered := false }]) w3) := faultAt.after K2.below ⟨t, g1, b, rfl, g2⟩
        clear g1 g2 R2 K2 HC hB2
        go_wp2_with fail
        exact ⟨rfl, HF.out⟩
      | ok y =>
        obtain ⟨e, k'⟩ := y
        go_enter Tryz.func105, Tryz.ntmps105
        go_wp2_with fail
        refine (isMark_any R1 hx [mark] (w.heap.size + 1) 0 1 (by simp) hT1).mono ?_
        rintro ev w2 ⟨rfl, hb2⟩
        rw [HM.out]
        have R2 := R1.more hb2
        have K2 : Keeps p w w2 := K1.trans (Keeps.of hb2 (by have := lt_of_heap R1.blk; omega))
        have hB2 := (hb2.block _ (lt_of_heap hB1)).trans hB1
        have hs2 := lt_of_heap hB2
        have E2 := E.keeps K2
        have X2 := X.keeps K2
        have C2 := HCC.out w w2 C K2
        have HC := toHid (deeper_go K caps hE hk1 hl hd w2 (fun b => w2.heap.size < b) (by omega) (by have := lt_of_heap R2.blk; omega) (.ok (e, k')) (fun w5 R5 K5 hs5 E5 => (HWW.out hk1 hd w5 R5 E5 (X2.keeps K5) (HCC.out w2 w5 C2 K5)).mono (fun ev w' h => by
          obtain ⟨c0, c1, c2, c3, c4, h1, h2, h3⟩ := h
          exact ⟨c0, c1, c2, c3, c4, h1, h2.same (fun _ _ _ => rfl) (fun b hb _ => by omega), h3⟩)) R2 E2)
        clear R1 K1 hB1 hT1 hx C C2
        go_wp2_with fail
        refine HC.out.mono ?_
        intro ev w3 hP
        unfold PostE at hP
        obtain ⟨c0, c1, c2, c3, c4, rfl, hrep, R3, K3, hk3, hk3l⟩ := hP
        obtain ⟨op, z, sx, pa, pn, pc, la, ln, lc, rfl, rfl, rfl, rfl, rfl⟩ := hrep.form
        have hB3 := (K3.block w.heap.size (by omega) (lt_of_heap hB2)).trans hB2
        have hs1 := lt_of_heap hB2
        obtain ⟨t0, t1, t2, t3, t4, tf⟩ := expr_block hB3
        have tf0 := tf 0
        have tf1 := tf 1
        have tf2 := tf 2
        have tf3 := tf 3
        have tf4 := tf 4
        have hp3 := lt_of_heap R3.blk
        have H3 := toHid (And.intro hrep (And.intro R3 (And.intro (K2.trans K3) hB3)))
        have hw1 := K2.below.size
        clear R3 K3 hrep hB3 tf HC R2 K2 hB2
        go_wp2_with fail
        obtain ⟨hrep, R3, K3, hB3⟩ := H3.out
        obtain ⟨f1, f2, f3, f4⟩ := laid5 hrep R3 K3 hB3 (by omega) (by omega) (by omega) (by omega) (.string op) (.int .i64 z) (.string sx) (.slice pa pn pc) (.slice la ln lc)
        refine bodyPost_ret (results_expr _ 8 rfl _ _ w.heap.size _ _ _ _ _ rfl f4) rfl ?_
        exact ⟨_, _, _, _, _, rfl, f1.same (fun _ _ _ => rfl) (fun b h _ => by omega), f2, f3, by omega, hk3l⟩
set_option maxHeartbeats 2000000 in
set_option maxRecDepth 100000 in
theorem ahead_any' (K : FuncId) (caps : Array Value) (hE : ∀ args w, (callFunc K args).run Tryz.prog w = .ok (.enter K args) w) {p g cap : Nat} {rk : Value} {l : List (ByteArray × ByteArray × Nat)} {k bl dp : Nat} {a0 a1 : Addr} {oR oW : Out (DataW Unit)} (mark : ByteArray) (rank : Nat) (hrank : rank ≤ 8) (hk : k < l.length) (hl : l.length ≤ 100000) (hen : Ended l) (hdp : dp ≤ 12) (Capt : World → Prop) (hCapt : ∀ w w', Capt w → Keeps p w w' → Capt w')
    (hR : ReadsE 93 #[.pointer (some ⟨p, 0, none⟩), .int .i64 ((rank : Int) + 1)] p g cap rk l k bl dp a0 a1 oR)
    (hW : k + 1 < l.length → dp < 12 → ∀ w2, RD w2 p g cap rk l (k + 1) bl (dp + 1) → TErr p a0 a1 w2 → RK p rk w2 → Capt w2 → Calls Tryz.prog K caps w2 fun ev w' => PostE (fun b => w2.heap.size ≤ b) p g cap rk l (k + 1) bl (dp + 1) a0 a1 w2 oW ev w') :
    ∀ w, RD w p g cap rk l k bl dp → TErr p a0 a1 w → RK p rk w → Capt w → Calls Tryz.prog 105 #[.pointer (some ⟨p, 0, none⟩), .string mark, .int .i64 (rank : Int), .func (.func K) caps #[]] w fun ev w' => PostE (fun b => w.heap.size ≤ b) p g cap rk l k bl dp a0 a1 w (pAhead l mark k dp oR oW) ev w' := by
  intro w R E X C
  have hpl := lt_of_heap R.blk
  have hgl := R.gl
  have hb0 : Below w.heap.size w (w.alloc (.cells #[.string ⟨#[]⟩, .int .i64 0, .string ⟨#[]⟩, .slice none 0 0, .slice none 0 0] 71)) := (Below.refl _ _).alloc (Nat.le_refl _) _
  have hB0 := heap_alloc_new w (.cells #[.string ⟨#[]⟩, .int .i64 0, .string ⟨#[]⟩, .slice none 0 0, .slice none 0 0] 71)
  have hsz : (w.alloc (.cells #[.string ⟨#[]⟩, .int .i64 0, .string ⟨#[]⟩, .slice none 0 0, .slice none 0 0] 71)).heap.size = w.heap.size + 1 := by simp
  have hb1 : Below w.heap.size w ((w.alloc (.cells #[.string ⟨#[]⟩, .int .i64 0, .string ⟨#[]⟩, .slice none 0 0, .slice none 0 0] 71)).alloc (.cells #[.string mark] 9)) := hb0.alloc (by omega) _
  have K1 : Keeps p w ((w.alloc (.cells #[.string ⟨#[]⟩, .int .i64 0, .string ⟨#[]⟩, .slice none 0 0, .slice none 0 0] 71)).alloc (.cells #[.string mark] 9)) := Keeps.of hb1 (by omega)
  have R1 := R.more hb1
  have hB1 : ((w.alloc (.cells #[.string ⟨#[]⟩, .int .i64 0, .string ⟨#[]⟩, .slice none 0 0, .slice none 0 0] 71)).alloc (.cells #[.string mark] 9)).heap[w.heap.size]? = _ := (Below.heap_alloc _ _ _ (by omega)).trans hB0
  have hT1 := ts_one (w.alloc (.cells #[.string ⟨#[]⟩, .int .i64 0, .string ⟨#[]⟩, .slice none 0 0, .slice none 0 0] 71)) mark
  rw [hsz] at hT1
  obtain ⟨x, hx⟩ : ∃ x, l[k]? = some x := ⟨l[k], by simp [hk]⟩
  have HX := toHid hx
  obtain ⟨m, hm⟩ : ∃ m, markB x [mark] = m := ⟨_, rfl⟩
  have hma : markAt l k [mark] = m := (markAt_of hx [mark]).trans hm
  unfold pAhead
  rw [hma]
  have HM := toHid hm
  have HRR := toHid hR
  have HWW := toHid hW
  have HCC := toHid hCapt
  clear R hm hma hR hW hCapt
  cases m
  · simp only [cond_false]
    cases oR with
    | error y =>
      go_enter Tryz.func105, Tryz.ntmps105
      go_wp2_with fail
      refine (isMark_any R1 hx [mark] (w.heap.size + 1) 0 1 (by simp) hT1).mono ?_
      rintro ev w2 ⟨rfl, hb2⟩
      rw [HM.out]
      have R2 := R1.more hb2
      have K2 : Keeps p w w2 := K1.trans (Keeps.of hb2 (by have := lt_of_heap R1.blk; omega))
      have hB2 := (hb2.block _ (lt_of_heap hB1)).trans hB1
      have hs2 := lt_of_heap hB2
      have E2 := E.keeps K2
      have X2 := X.keeps K2
      have C2 := HCC.out w w2 C K2
      have HC := toHid (HRR.out w2 R2 E2 X2)
      clear R1 K1 hB1 hT1 hx C C2
      go_wp2_with fail
      refine HC.out.mono ?_
      intro ev w3 hP
      unfold PostE at hP
      obtain ⟨t, g1, b, rfl, g2⟩ := hP
      have HF : Hid (faultAt l p a0 a1 w y (.panicked [{ v := .iface 58 (.pointer (some ⟨b, 0, none⟩)), recovered := false }]) w3) := faultAt.after K2.below ⟨t, g1, b, rfl, g2⟩
      clear g1 g2 R2 K2 HC hB2
      go_wp2_with fail
      exact ⟨rfl, HF.out⟩
    | ok y =>
      obtain ⟨e, k'⟩ := y
      go_enter Tryz.func105, Tryz.ntmps105
      go_wp2_with fail
      refine (isMark_any R1 hx [mark] (w.heap.size + 1) 0 1 (by simp) hT1).mono ?_
      rintro ev w2 ⟨rfl, hb2⟩
      rw [HM.out]
      have R2 := R1.more hb2
      have K2 : Keeps p w w2 := K1.trans (Keeps.of hb2 (by have := lt_of_heap R1.blk; omega))
      have hB2 := (hb2.block _ (lt_of_heap hB1)).trans hB1
      have hs2 := lt_of_heap hB2
      have E2 := E.keeps K2
      have X2 := X.keeps K2
      have C2 := HCC.out w w2 C K2
      have HC := toHid (HRR.out w2 R2 E2 X2)
      clear R1 K1 hB1 hT1 hx C C2
      go_wp2_with fail
      refine HC.out.mono ?_
      intro ev w3 hP
      unfold PostE at hP
      obtain ⟨c0, c1, c2, c3, c4, rfl, hrep, R3, K3, hk3, hk3l⟩ := hP
      obtain ⟨op, z, sx, pa, pn, pc, la, ln, lc, rfl, rfl, rfl, rfl, rfl⟩ := hrep.form
      have hB3 := (K3.block w.heap.size (by omega) (lt_of_heap hB2)).trans hB2
      have hs1 := lt_of_heap hB2
      obtain ⟨t0, t1, t2, t3, t4, tf⟩ := expr_block hB3
      have tf0 := tf 0
      have tf1 := tf 1
      have tf2 := tf 2
      have tf3 := tf 3
      have tf4 := tf 4
      have hp3 := lt_of_heap R3.blk
      have H3 := toHid (And.intro hrep (And.intro R3 (And.intro (K2.trans K3) hB3)))
      have hw1 := K2.below.size
      clear R3 K3 hrep hB3 tf HC R2 K2 hB2
      go_wp2_with fail
      obtain ⟨hrep, R3, K3, hB3⟩ := H3.out
      obtain ⟨f1, f2, f3, f4⟩ := laid5 hrep R3 K3 hB3 (by omega) (by omega) (by omega) (by omega) (.string op) (.int .i64 z) (.string sx) (.slice pa pn pc) (.slice la ln lc)
      refine bodyPost_ret (results_expr _ 8 rfl _ _ w.heap.size _ _ _ _ _ rfl f4) rfl ?_
      exact ⟨_, _, _, _, _, rfl, f1.same (fun _ _ _ => rfl) (fun b h _ => by omega), f2, f3, by omega, hk3l⟩
  · simp only [cond_true]
    have hk1 := hen.next HX.out HM.out
    by_cases h12 : dp = 12
    · rw [if_pos h12]
      subst h12
      go_enter Tryz.func105, Tryz.ntmps105
      go_wp2_with fail
      refine (isMark_any R1 hx [mark] (w.heap.size + 1) 0 1 (by simp) hT1).mono ?_
      rintro ev w2 ⟨rfl, hb2⟩
      rw [HM.out]
      have R2 := R1.more hb2
      have K2 : Keeps p w w2 := K1.trans (Keeps.of hb2 (by have := lt_of_heap R1.blk; omega))
      have hB2 := (hb2.block _ (lt_of_heap hB1)).trans hB1
      have hs2 := lt_of_heap hB2
      have E2 := E.keeps K2
      have X2 := X.keeps K2
      have C2 := HCC.out w w2 C K2
      have HC := toHid (deeper_bound (.func (.func K) caps #[]) hk w2 R2 E2)
      clear R1 K1 hB1 hT1 hx C C2
      go_wp2_with fail
      refine HC.out.mono ?_
      intro ev w3 hP
      obtain ⟨t, g1, b, rfl, g2⟩ := hP
      have HF : Hid (faultAt l p a0 a1 w (k, true) (.panicked [{ v := .iface 58 (.pointer (some ⟨b, 0, none⟩)), recovered := false }]) w3) := faultAt.after K2.below ⟨t, g1, b, rfl, g2⟩
      clear g1 g2 R2 K2 HC hB2
      go_wp2_with fail
      exact ⟨rfl, HF.out⟩
    · rw [if_neg h12]
      have hd : dp < 12 := by omega
      cases oW with
      | error y =>
        go_enter Tryz.func105, Tryz.ntmps105
        go_wp2_with fail
        refine (isMark_any R1 hx [mark] (w.heap.size + 1) 0 1 (by simp) hT1).mono ?_
        rintro ev w2 ⟨rfl, hb2⟩
        rw [HM.out]
        have R2 := R1.more hb2
        have K2 : Keeps p w w2 := K1.trans (Keeps.of hb2 (by have := lt_of_heap R1.blk; omega))
        have hB2 := (hb2.block _ (lt_of_heap hB1)).trans hB1
        have hs2 := lt_of_heap hB2
        have E2 := E.keeps K2
        have X2 := X.keeps K2
        have C2 := HCC.out w w2 C K2
        have HC := toHid (deeper_go' K caps hE hk1 hl hd w2 (fun b => w2.heap.size < b) (by omega) (by have := lt_of_heap R2.blk; omega) (.error y) (fun w5 R5 K5 hs5 E5 => (HWW.out hk1 hd w5 R5 E5 (X2.keeps K5) (HCC.out w2 w5 C2 K5)).mono (fun ev w' h => h)) R2 E2)
        clear R1 K1 hB1 hT1 hx C C2
        go_wp2_with fail
        refine HC.out.mono ?_
        intro ev w3 hP
        unfold PostE at hP
        obtain ⟨t, g1, b, rfl, g2⟩ := hP
        have HF : Hid (faultAt l p a0 a1 w y (.panicked [{ v := .iface 58 (.pointer (some ⟨b, 0, none⟩)), recovered := false }]) w3) := faultAt.after K2.below ⟨t, g1, b, rfl, g2⟩
        clear g1 g2 R2 K2 HC hB2
        go_wp2_with fail
        exact ⟨rfl, HF.out⟩
      | ok y =>
        obtain ⟨e, k'⟩ := y
        go_enter Tryz.func105, Tryz.ntmps105
        go_wp2_with fail
        refine (isMark_any R1 hx [mark] (w.heap.size + 1) 0 1 (by simp) hT1).mono ?_
        rintro ev w2 ⟨rfl, hb2⟩
        rw [HM.out]
        have R2 := R1.more hb2
        have K2 : Keeps p w w2 := K1.trans (Keeps.of hb2 (by have := lt_of_heap R1.blk; omega))
        have hB2 := (hb2.block _ (lt_of_heap hB1)).trans hB1
        have hs2 := lt_of_heap hB2
        have E2 := E.keeps K2
        have X2 := X.keeps K2
        have C2 := HCC.out w w2 C K2
        have HC := toHid (deeper_go' K caps hE hk1 hl hd w2 (fun b => w2.heap.size < b) (by omega) (by have := lt_of_heap R2.blk; omega) (.ok (e, k')) (fun w5 R5 K5 hs5 E5 => (HWW.out hk1 hd w5 R5 E5 (X2.keeps K5) (HCC.out w2 w5 C2 K5)).mono (fun ev w' h => by
          obtain ⟨c0, c1, c2, c3, c4, h1, h2, h3⟩ := h
          exact ⟨c0, c1, c2, c3, c4, h1, h2.same (fun _ _ _ => rfl) (fun b hb _ => by omega), h3⟩)) R2 E2)
        clear R1 K1 hB1 hT1 hx C C2
        go_wp2_with fail
        refine HC.out.mono ?_
        intro ev w3 hP
        unfold PostE at hP
        obtain ⟨c0, c1, c2, c3, c4, rfl, hrep, R3, K3, hk3, hk3l⟩ := hP
        obtain ⟨op, z, sx, pa, pn, pc, la, ln, lc, rfl, rfl, rfl, rfl, rfl⟩ := hrep.form
        have hB3 := (K3.block w.heap.size (by omega) (lt_of_heap hB2)).trans hB2
        have hs1 := lt_of_heap hB2
        obtain ⟨t0, t1, t2, t3, t4, tf⟩ := expr_block hB3
        have tf0 := tf 0
        have tf1 := tf 1
        have tf2 := tf 2
        have tf3 := tf 3
        have tf4 := tf 4
        have hp3 := lt_of_heap R3.blk
        have H3 := toHid (And.intro hrep (And.intro R3 (And.intro (K2.trans K3) hB3)))
        have hw1 := K2.below.size
        clear R3 K3 hrep hB3 tf HC R2 K2 hB2
        go_wp2_with fail
        obtain ⟨hrep, R3, K3, hB3⟩ := H3.out
        obtain ⟨f1, f2, f3, f4⟩ := laid5 hrep R3 K3 hB3 (by omega) (by omega) (by omega) (by omega) (.string op) (.int .i64 z) (.string sx) (.slice pa pn pc) (.slice la ln lc)
        refine bodyPost_ret (results_expr _ 8 rfl _ _ w.heap.size _ _ _ _ _ rfl f4) rfl ?_
        exact ⟨_, _, _, _, _, rfl, f1.same (fun _ _ _ => rfl) (fun b h _ => by omega), f2, f3, by omega, hk3l⟩
end Go.Proofs.YtajkahckmhipkaaGreatDoor
