/- Package tree: Text of any statements: what it answers is read as those statements, or it answers an error. -/
import Derived.Test.YtajkahckmhipkaaGreatDoorWrtMToCBld
import Derived.Test.YtajkahckmhipkaaGreatDoorWrtQToStmtM
import Derived.Test.YtajkahckmhipkaaGreatDoorBackWToEqA
import Derived.Test.YtajkahckmhipkaaGreatDoorCopyCToEqB
import Derived.Test.YtajkahckmhipkaaGreatDoorErrCodeToWrtA
namespace Go.Proofs.YtajkahckmhipkaaGreatDoor
open Go.RowKit Go.Lib

structure TwEnv (B : Nat) (a0 a1 a2 : Addr) (w : World) : Prop where
  lenv : LEnv B a0 a1 w
  g2 : w.cell? ⟨0, 0, none⟩ = some (.iface 163 (.pointer (some a2)))
  b2 : 0 < B
theorem TwEnv.below {B : Nat} {a0 a1 a2 : Addr} {w w' : World} (E : TwEnv B a0 a1 a2 w) (hb : Below B w w') : TwEnv B a0 a1 a2 w' := ⟨E.lenv.below hb, (hb.cell (p := ⟨0, 0, none⟩) E.b2).trans E.g2, E.b2⟩
theorem TwEnv.up {B C : Nat} {a0 a1 a2 : Addr} {w : World} (E : TwEnv B a0 a1 a2 w) (h : B ≤ C) : TwEnv C a0 a1 a2 w := ⟨E.lenv.up h, E.g2, by have := E.b2; omega⟩
theorem rank_first (i : Nat) (hi : i < 8) : ∃ t, (rankOps i)[0]? = some t := by
  iterate 8 (rcases i with _ | i; · exact ⟨_, rfl⟩)
  omega
theorem rkl_of (w : World) : RKL (w.heap.size + 9) (.slice (some ⟨w.heap.size + 8, 0, none⟩) 8 8) (rkWorld w) := by
  obtain ⟨_, hs, h⟩ := rk_of w
  obtain ⟨rb, c, e, _, hx⟩ := h (w.heap.size + 9) (Nat.le_refl _)
  refine ⟨rb, c, e, ?_, fun i hi => ?_⟩
  · obtain ⟨b, c', h1, _⟩ := hx 0 (by omega)
    have := lt_of_cell h1
    rw [hs] at this
    exact this
  · obtain ⟨b, c', h1, _, h3⟩ := hx i hi
    obtain ⟨t, ht⟩ := rank_first i hi
    have := lt_of_cell (h3 0 t ht)
    rw [hs] at this
    exact ⟨b, c', h1, this, h3⟩
theorem RKL.more {p : Nat} {rk : Value} {w w' : World} (h : RKL p rk w) (hb : Below w.heap.size w w') : RKL p rk w' := by
  obtain ⟨rb, c, e, h0, hx⟩ := h
  refine ⟨rb, c, e, h0, fun i hi => ?_⟩
  obtain ⟨b, c', h1, h2, h3⟩ := hx i hi
  exact ⟨b, c', (hb.cell (p := ⟨rb, i, none⟩) (lt_of_cell h1)).trans h1, h2, fun j t hj => (hb.cell (p := ⟨b, 0 + j, none⟩) (lt_of_cell (h3 j t hj))).trans (h3 j t hj)⟩
/-- The writer's text as a string. -/
theorem WT.string {p : Nat} {rk : Value} {w1 w : World} (C : WT p rk w1 w) : ∃ (t : ByteArray) (a : Option Addr) (n c : Nat) (lost : Bool), t.size ≤ 6000 ∧ w.cell? ⟨p, 1, none⟩ = some (.slice a n c) ∧ w.cell? ⟨p, 3, none⟩ = some (.bool lost) ∧ (convert 48 9 (.slice a n c)).run Tryz.prog w = .ok (.string t) w := by
  obtain ⟨v, t, tm, lost, hb, ho, h6⟩ := C.blk
  obtain ⟨c0, c1, c2, c3, cf⟩ := four_cells hb
  rcases ho.2 with ⟨rfl, h0⟩ | ⟨g, cap, cur, rfl, _, hg, _, _, _, hx⟩
  · exact ⟨⟨#[]⟩, none, 0, 0, lost, by decide, c1, c3, by
      have h := run_convert_bytes_nil (P := Tryz.prog) w 48 5 Tryz.underlying48 Tryz.underlying5 0 0 9 Tryz.underlying9
      exact h⟩
  have hs : strOfNums (t.data.toList.map fun c => (c.toNat : Int)) = t := by
    apply ByteArray.ext
    simp [strOfNums, Function.comp_def]
  refine ⟨t, _, _, cap, lost, h6, c1, c3, ?_⟩
  have h := run_convert_bytes_arg (P := Tryz.prog) w 48 5 Tryz.underlying48 Tryz.underlying5 g 0 t.size cap (t.data.toList.map fun c => (c.toNat : Int)) (by simp) (fun i hi => by
    rw [Nat.zero_add, cell_of_row w g i cur 5 (0, 0) hg, ← Array.getElem?_toList]
    have e : (cur.toList.take (t.size * 1))[i]? = (strCells t)[i]? := by rw [hx]
    rw [List.getElem?_take, if_pos (by omega)] at e
    rw [e]
    have e3 : t.data[i]? = some (t.data[i]'(by simpa using hi)) := by simp
    simp [strCells, e3]) 9 Tryz.underlying9
  rw [hs] at h
  exact h
theorem fs_of {s : ByteArray} {m : List (ByteArray × ByteArray × Nat)} (hs : s.size ≤ 6000) (h : lexP s = .ok (m.length, cellsOf m)) : ∀ x ∈ m, Fs x.2.1 := by
  obtain ⟨m', hm1, _, _, _, hshort⟩ := lexP_fine h
  obtain rfl := cells_inj _ _ hm1
  intro x hx
  have := hshort x hx
  unfold Fs
  omega
/-- What is read: sizes. -/
theorem read_fit {s : ByteArray} {m : List (ByteArray × ByteArray × Nat)} {ss : List (DataW Unit)} {k : Nat} (hs : s.size ≤ 6000) (h : lexP s = .ok (m.length, cellsOf m)) (hp : pRead m = .ok (ss, k)) : OkSL 2000000 ss ∧ ∃ D, D ≤ 1000000000 ∧ ZSL D ss := by
  have hb := lexP_bd h
  exact ⟨read_sz (by omega) hp, 12 * (m.length + 1), by omega, read_z (fs_of hs h) hp⟩
set_option maxHeartbeats 8000000 in
set_option maxRecDepth 100000 in
theorem text_two (a0 a1 a2 : Addr) (w : World) (E : TwEnv w.heap.size a0 a1 a2 w) (ht : Tabbed w) (S : Nat → Prop) (ba : Option Addr) (bc D : Nat) (ss : List (DataW Unit)) (h : RepWSL S w ba ss) (hk : OkSL 2000000 ss) (hz : ZSL D ss) (hD : D ≤ 1000000000) :
    Calls Tryz.prog 6 #[.slice ba ss.length bc] w fun ev w' => Below w.heap.size w w' ∧ ((∃ t m k, ev = .returned (.tuple #[.string t, .nilIface]) ∧ t.size ≤ 6000 ∧ lexP t = .ok (m.length, cellsOf m) ∧ pRead m = .ok (ss, k)) ∨ ev = .returned (.tuple #[.string ⟨#[]⟩, .iface 163 (.pointer (some a2))])) := by
  have HE := toHid E
  have HT := toHid ht
  have HR := toHid h
  have HK := toHid hk
  have HZ := toHid hz
  clear E ht h hk hz
  go_enter Tryz.func6, Tryz.ntmps6
  go_wp2_with fail
  refine (ranks_any _).mono ?_
  rintro ev w1 ⟨rfl, hw1⟩
  obtain ⟨hb1, hs1, _⟩ := rk_of w
  have hkl := rkl_of w
  rw [← hw1] at hb1 hs1 hkl
  clear hw1
  obtain ⟨wA, hA⟩ : ∃ wA, wA = w1.alloc (.cells #[.slice (some ⟨w.heap.size + 8, 0, none⟩) 8 8, .slice none 0 0, .int .i64 0, .bool false] 50) := ⟨_, rfl⟩
  have hblk : wA.heap[w.heap.size + 9]? = some (.cells #[.slice (some ⟨w.heap.size + 8, 0, none⟩) 8 8, .slice none 0 0, .int .i64 0, .bool false] 50) := by
    have h := heap_alloc_new w1 (.cells #[.slice (some ⟨w.heap.size + 8, 0, none⟩) 8 8, .slice none 0 0, .int .i64 0, .bool false] 50)
    rw [hs1, ← hA] at h
    exact h
  have hbA1 : Below w1.heap.size w1 wA := by rw [hA]; exact (Below.refl _ _).alloc (Nat.le_refl _) _
  have hbA : Below w.heap.size w wA := hb1.trans (hbA1.mono hb1.size)
  have HWT : Hid (WT (w.heap.size + 9) (.slice (some ⟨w.heap.size + 8, 0, none⟩) 8 8) wA wA) := ⟨⟨_, ⟨#[]⟩, _, _, hblk, ⟨rfl, .inl ⟨rfl, rfl⟩⟩, by decide⟩, Below.refl _ _⟩
  obtain ⟨kt, hsv⟩ := svs_of (p := w.heap.size + 9) (D := D) (N := 2000000) (by omega) (HR.out.same (S' := fun b => b < w.heap.size + 9) (same_below hbA) (fun b _ hl => by show b < _; omega)) HK.out HZ.out
  have HSW := toHid ((sts_all (ranked_all quote_ok (format_ok (p := w.heap.size + 9) HT.out hbA (by omega)) (hkl.more hbA1) kt) D).1 ba ss.length bc hsv (by have := HK.out.1; omega) 0 (by omega) wA HWT.out)
  have HA := toHid hA
  have HBA := toHid hbA
  clear hblk hbA1 hbA hkl hb1 hA hsv
  go_wp2_with fail
  rw [← HA.out]
  refine HSW.out.mono ?_
  rintro ev w2 ⟨rfl, hws⟩
  obtain ⟨t, ta, tn, tc, lost, ht6, t1, t3, hcv⟩ := hws.wt.string
  have hb2 : Below w.heap.size w w2 := HBA.out.trans (hws.wt.bl.mono (by omega))
  have HB2 := toHid hb2
  have hg2 := (HE.out.below hb2).g2
  have hpl := hws.wt.lt
  have E2 := (HE.out.below hb2).up hb2.size
  have HE2 := toHid E2
  clear hws hb2 E2 HSW
  cases lost with
  | true =>
    clear hcv
    go_wp2_with fail
    go_quiet (fail)
    go_wp2_with fail
    go_ret2
    exact ⟨below_drewN _ HB2.out, .inr rfl⟩
  | false =>
    go_wp2_with fail
    refine (read_any t a0 a1 w2 HE2.out.lenv).mono ?_
    rintro ev w3 ⟨hb3, ⟨m, ss3, k, ba3, bc3, hs6, hlx, hpr, rfl, hR3⟩ | ⟨_, T, q, rfl⟩⟩
    rotate_left
    · have hb3w := HB2.out.trans (hb3.mono HB2.out.size)
      have HB3 := toHid hb3w
      have hg3 := (HE.out.below hb3w).g2
      clear hb3 hb3w hg2 t1 t3 hcv
      go_wp2_with fail
      go_quiet (fail)
      go_wp2_with fail
      go_ret2
      exact ⟨below_drewN _ HB3.out, .inr rfl⟩
    have hb3w := HB2.out.trans (hb3.mono HB2.out.size)
    have HB3 := toHid hb3w
    have HQ := toHid (eqStmts_all (lc := bc) (kc := bc3) (HR.out.toV.same (S' := S) (same_below hb3w) (fun b h _ => h)) hR3.toV HK.out (read_fit hs6 hlx hpr).1)
    have HLX := toHid hlx
    have HPR := toHid hpr
    clear hb3 hb3w hg2 t1 t3 hcv hR3 hlx hpr
    go_wp2_with fail
    refine HQ.out.mono ?_
    rintro ev w4 ⟨b, rfl, hbe, hb4⟩
    have hb4w := HB3.out.trans (hb4.mono HB3.out.size)
    have HB4 := toHid hb4w
    have hg4 := (HE.out.below hb4w).g2
    have HBE := toHid hbe
    clear hb4 hb4w hbe
    cases b with
    | false =>
      go_wp2_with fail
      go_quiet (fail)
      go_wp2_with fail
      go_ret2
      exact ⟨below_drewN _ HB4.out, .inr rfl⟩
    | true =>
      go_wp2_with fail
      go_ret2
      refine ⟨HB4.out, .inl ⟨t, m, k, rfl, ht6, HLX.out, ?_⟩⟩
      rw [HBE.out (by first | rfl | trivial)]
      exact HPR.out
end Go.Proofs.YtajkahckmhipkaaGreatDoor

/- Package tree: two statements pass are the same. -/
namespace Go.Proofs.YtajkahckmhipkaaGreatDoor
open Go.RowKit

theorem eqStr_none (a b : Option Addr) (c d : Nat) (w : World) : Calls Tryz.prog 25 #[.slice a 0 c, .slice b 0 d] w fun ev w' => ev = .returned (.bool true) ∧ w' = w := by
  go_enter Tryz.func25, Tryz.ntmps25
  go_wp2_with fail
  refine wp_loop_rounds 1 ?_
  rw [rounds_succ]
  go_wp2
  go_ret
  exact ⟨rfl, rfl⟩
theorem eqExpr_none (a b : Option Addr) (c d : Nat) (f : Value) (w : World) : Calls Tryz.prog 26 #[.slice a 0 c, .slice b 0 d, f] w fun ev w' => ev = .returned (.bool true) ∧ w' = w := by
  go_enter Tryz.func26, Tryz.ntmps26
  go_wp2_with fail
  refine wp_loop_rounds 1 ?_
  rw [rounds_succ]
  go_wp2
  go_ret
  exact ⟨rfl, rfl⟩
theorem eqStmt_none (a b : Option Addr) (c d : Nat) (f : Value) (w : World) : Calls Tryz.prog 14 #[.slice a 0 c, .slice b 0 d, f] w fun ev w' => ev = .returned (.bool true) ∧ w' = w := by
  go_enter Tryz.func14, Tryz.ntmps14
  go_wp2_with fail
  refine wp_loop_rounds 1 ?_
  rw [rounds_succ]
  go_wp2
  go_ret
  exact ⟨rfl, rfl⟩

set_option maxHeartbeats 4000000 in
set_option maxRecDepth 100000 in
theorem sameStmt_pass (pa la ba ea pa' la' ba' ea' : Option Addr) (pc lc bc ec pc' lc' bc' ec' : Nat) (w : World) :
    Calls Tryz.prog 15 #[.agg #[.string kPs, .string ⟨#[]⟩, .slice pa 0 pc, .slice la 0 lc, .slice ba 0 bc, .slice ea 0 ec], .agg #[.string kPs, .string ⟨#[]⟩, .slice pa' 0 pc', .slice la' 0 lc', .slice ba' 0 bc', .slice ea' 0 ec']] w fun ev w' => ev = .returned (.bool true) ∧ Below w.heap.size w w' := by
  go_enter Tryz.func15, Tryz.ntmps15
  go_wp2_with fail
  refine (eqStr_none _ _ _ _ _).mono ?_
  rintro ev w1 ⟨rfl, rfl⟩
  go_wp2_with fail
  refine (eqExpr_none _ _ _ _ _ _).mono ?_
  rintro ev w1 ⟨rfl, rfl⟩
  go_wp2_with fail
  refine (eqStmt_none _ _ _ _ _ _).mono ?_
  rintro ev w1 ⟨rfl, rfl⟩
  go_wp2_with fail
  refine (eqStmt_none _ _ _ _ _ _).mono ?_
  rintro ev w1 ⟨rfl, rfl⟩
  go_wp2
  go_ret
  exact ⟨rfl, ((Below.refl _ _).alloc (Nat.le_refl _) _).alloc (by simp) _⟩

set_option maxHeartbeats 4000000 in
set_option maxRecDepth 100000 in
theorem eqStmt_pass (g o cap g' o' cap' : Nat) (pa la ba ea pa' la' ba' ea' : Option Addr) (pc lc bc ec pc' lc' bc' ec' : Nat) (w : World)
    (x0 : w.cell? ⟨g, o, none⟩ = some (.string kPs)) (x1 : w.cell? ⟨g, o + 1, none⟩ = some (.string ⟨#[]⟩)) (x2 : w.cell? ⟨g, o + 2, none⟩ = some (.slice pa 0 pc)) (x3 : w.cell? ⟨g, o + 3, none⟩ = some (.slice la 0 lc)) (x4 : w.cell? ⟨g, o + 4, none⟩ = some (.slice ba 0 bc)) (x5 : w.cell? ⟨g, o + 5, none⟩ = some (.slice ea 0 ec))
    (y0 : w.cell? ⟨g', o', none⟩ = some (.string kPs)) (y1 : w.cell? ⟨g', o' + 1, none⟩ = some (.string ⟨#[]⟩)) (y2 : w.cell? ⟨g', o' + 2, none⟩ = some (.slice pa' 0 pc')) (y3 : w.cell? ⟨g', o' + 3, none⟩ = some (.slice la' 0 lc')) (y4 : w.cell? ⟨g', o' + 4, none⟩ = some (.slice ba' 0 bc')) (y5 : w.cell? ⟨g', o' + 5, none⟩ = some (.slice ea' 0 ec')) :
    Calls Tryz.prog 14 #[.slice (some ⟨g, o, none⟩) 1 cap, .slice (some ⟨g', o', none⟩) 1 cap', .func (.func 15) #[] #[]] w fun ev w' => ev = .returned (.bool true) ∧ Below w.heap.size w w' := by
  have hgl := lt_of_cell x0
  have hgl' := lt_of_cell y0
  go_enter Tryz.func14, Tryz.ntmps14
  go_wp2_with fail
  refine wp_loop_rounds 2 ?_
  rw [rounds_succ]
  go_wp2_with fail
  refine (sameStmt_pass _ _ _ _ _ _ _ _ _ _ _ _ _ _ _ _ _).mono ?_
  rintro ev w1 ⟨rfl, hb⟩
  have hbw : Below w.heap.size w w1 := (((Below.refl _ _).alloc (Nat.le_refl _) _).alloc (by simp) _).trans (hb.mono (by simp; omega))
  clear hb
  go_wp2_with fail
  rw [rounds_succ]
  go_wp2
  go_ret
  exact ⟨rfl, hbw⟩
end Go.Proofs.YtajkahckmhipkaaGreatDoor

/- The law's closed fact pass(). -/
namespace Go.Proofs.YtajkahckmhipkaaGreatDoor
open Go.RowKit Go.Lib

def bPass : ByteArray := ⟨#[112, 97, 115, 115, 10]⟩
def mPass : List (ByteArray × ByteArray × Nat) := [(kWord, kPs, 0), (kNewline, ⟨#[]⟩, 4), (kEnd, ⟨#[]⟩, 5)]
theorem lexP_pass : lexP bPass = .ok (mPass.length, cellsOf mPass) := by kernel_rfl
theorem pRead_pass : pRead mPass = .ok ([mkS kPs ⟨#[]⟩ [] [] [] []], 2) := by kernel_rfl
theorem cellsOf_inj : ∀ {l m : List (ByteArray × ByteArray × Nat)}, cellsOf l = cellsOf m → l = m
  | [], [], _ => rfl
  | [], _ :: _, h => by simp [cellsOf, tokCells] at h
  | _ :: _, [], h => by simp [cellsOf, tokCells] at h
  | (a, b, c) :: l, (a', b', c') :: m, h => by
    have h' : tokCells a b c ++ cellsOf l = tokCells a' b' c' ++ cellsOf m := by simpa [cellsOf] using h
    simp [tokCells] at h'
    obtain ⟨rfl, rfl, h3, h4⟩ := h'
    have h5 : c = c' := by omega
    rw [h5, cellsOf_inj h4]

/-- Six cells at a place that hold the statement pass. -/
def IsPass (w : World) (g o : Nat) : Prop := ∃ (pa la ba ea : Option Addr) (pc lc bc ec : Nat), w.cell? ⟨g, o, none⟩ = some (.string kPs) ∧ w.cell? ⟨g, o + 1, none⟩ = some (.string ⟨#[]⟩) ∧ w.cell? ⟨g, o + 2, none⟩ = some (.slice pa 0 pc) ∧ w.cell? ⟨g, o + 3, none⟩ = some (.slice la 0 lc) ∧ w.cell? ⟨g, o + 4, none⟩ = some (.slice ba 0 bc) ∧ w.cell? ⟨g, o + 5, none⟩ = some (.slice ea 0 ec)
theorem IsPass.more {w w' : World} {g o : Nat} (h : IsPass w g o) (hb : Below w.heap.size w w') : IsPass w' g o := by
  obtain ⟨pa, la, ba, ea, pc, lc, bc, ec, h0, h1, h2, h3, h4, h5⟩ := h
  have hl : g < w.heap.size := lt_of_cell h0
  exact ⟨pa, la, ba, ea, pc, lc, bc, ec, (hb.cell (p := ⟨g, o, none⟩) hl).trans h0, (hb.cell (p := ⟨g, o + 1, none⟩) hl).trans h1, (hb.cell (p := ⟨g, o + 2, none⟩) hl).trans h2, (hb.cell (p := ⟨g, o + 3, none⟩) hl).trans h3, (hb.cell (p := ⟨g, o + 4, none⟩) hl).trans h4, (hb.cell (p := ⟨g, o + 5, none⟩) hl).trans h5⟩

theorem read_pass (a0 a1 : Addr) (w : World) (E : LEnv w.heap.size a0 a1 w) : Calls Tryz.prog 8 #[.string bPass] w fun ev w' => ∃ g o cap, ev = .returned (.tuple #[.slice (some ⟨g, o, none⟩) 1 cap, .nilIface]) ∧ IsPass w' g o ∧ Below w.heap.size w w' := by
  refine (read_any bPass a0 a1 w E).mono ?_
  rintro ev w' ⟨hb, ⟨m, ss, k, ba, bc, _, h1, h2, h3, h4⟩ | ⟨hno, _⟩⟩
  rotate_left
  · exact absurd pRead_pass (hno mPass _ _ (by decide) lexP_pass)
  rw [lexP_pass] at h1
  simp only [Except.ok.injEq, Prod.mk.injEq] at h1
  obtain rfl := cellsOf_inj h1.2
  rw [pRead_pass] at h2
  simp only [Except.ok.injEq, Prod.mk.injEq] at h2
  obtain ⟨rfl, rfl⟩ := h2
  obtain ⟨b, o, rfl, _, hx⟩ := h4 (by simp)
  obtain ⟨c0, c1, c2, c3, c4, c5, x0, x1, x2, x3, x4, x5, n, hr⟩ := hx 0 _ rfl
  cases n with
  | zero => exact hr.elim
  | succ n =>
    obtain ⟨kd, nm, pl, el, bd, es, pa, la, ba, ea, pc, lc, bc2, ec, hd, hcs, _⟩ := hr
    simp only [List.cons.injEq, and_true] at hcs
    obtain ⟨rfl, rfl, rfl, rfl, rfl, rfl⟩ := hcs
    obtain ⟨rfl, rfl, rfl, rfl, rfl, rfl⟩ := mkS_inj hd
    exact ⟨b, o, bc, h3, ⟨pa, la, ba, ea, pc, lc, bc2, ec, by simpa using x0, by simpa using x1, by simpa using x2, by simpa using x3, by simpa using x4, by simpa using x5⟩, hb⟩

/-- The writer's text as a string. -/
theorem WS.string {w0 w : World} {p : Nat} {t : ByteArray} (C : WS w0 p t w) (ht : 0 < t.size) : ∃ gt cap, w.cell? ⟨p, 1, none⟩ = some (.slice (some ⟨gt, 0, none⟩) t.size cap) ∧ w.cell? ⟨p, 3, none⟩ = some (.bool false) ∧ (convert 48 9 (.slice (some ⟨gt, 0, none⟩) t.size cap)).run Tryz.prog w = .ok (.string t) w := by
  obtain ⟨rk, v, tm, hb, ho, _⟩ := C.blk
  obtain ⟨c0, c1, c2, c3, cf⟩ := four_cells hb
  rcases ho.2 with ⟨_, h0⟩ | ⟨g, cap, cur, rfl, _, hg, _, _, _, hx⟩
  · omega
  have hs : strOfNums (t.data.toList.map fun c => (c.toNat : Int)) = t := by
    apply ByteArray.ext
    simp [strOfNums, Function.comp_def]
  refine ⟨g, cap, c1, c3, ?_⟩
  have h := run_convert_bytes_arg (P := Tryz.prog) w 48 5 Tryz.underlying48 Tryz.underlying5 g 0 t.size cap (t.data.toList.map fun c => (c.toNat : Int)) (by simp) (fun i hi => by
    rw [Nat.zero_add, cell_of_row w g i cur 5 (0, 0) hg, ← Array.getElem?_toList]
    have e : (cur.toList.take (t.size * 1))[i]? = (strCells t)[i]? := by rw [hx]
    rw [List.getElem?_take, if_pos (by omega)] at e
    rw [e]
    have e3 : t.data[i]? = some (t.data[i]'(by simpa using hi)) := by simp
    simp [strCells, e3]) 9 Tryz.underlying9
  rw [hs] at h
  exact h

set_option maxHeartbeats 4000000 in
set_option maxRecDepth 100000 in
theorem text_pass (a0 a1 : Addr) (g o cap : Nat) (w : World) (E : LEnv w.heap.size a0 a1 w) (hP : IsPass w g o) : Calls Tryz.prog 6 #[.slice (some ⟨g, o, none⟩) 1 cap] w fun ev w' => ev = .returned (.tuple #[.string bPass, .nilIface]) ∧ Below w.heap.size w w' := by
  have HP := toHid hP
  have HE := toHid E
  clear hP E
  go_enter Tryz.func6, Tryz.ntmps6
  go_wp2_with fail
  refine (ranks_any _).mono ?_
  rintro ev w1 ⟨rfl, hw1⟩
  obtain ⟨hb1, hs1, _⟩ := rk_of w
  rw [← hw1] at hb1 hs1
  clear hw1
  have HWS : Hid (WS w (w.heap.size + 9) ⟨#[]⟩ (w1.alloc (.cells #[.slice (some ⟨w.heap.size + 8, 0, none⟩) 8 8, .slice none 0 0, .int .i64 0, .bool false] 50))) := by
    have h := heap_alloc_new w1 (.cells #[.slice (some ⟨w.heap.size + 8, 0, none⟩) 8 8, .slice none 0 0, .int .i64 0, .bool false] 50)
    rw [hs1] at h
    exact ⟨⟨_, _, _, h, ⟨rfl, .inl ⟨rfl, rfl⟩⟩, by simp [Value.ownBlock]⟩, by omega, hb1.alloc hb1.size _⟩
  obtain ⟨pa, la, ba, ea, pc, lc, bc, ec, x0, x1, x2, x3, x4, x5⟩ := HP.out.more HWS.out.bl
  have HX := toHid (statements_pass HWS.out g o cap pa la ba ea pc lc bc ec x0 x1 x2 x3 x4 x5)
  clear x0 x1 x2 x3 x4 x5
  go_wp2_with fail
  refine HX.out.mono ?_
  rintro ev w2 ⟨rfl, hws⟩
  obtain ⟨gt, tc, t1, t3, hcv⟩ := hws.string (by decide)
  replace t1 : w2.cell? ⟨w.heap.size + 9, 1, none⟩ = some (.slice (some ⟨gt, 0, none⟩) 5 tc) := t1
  replace hcv : (convert 48 9 (.slice (some ⟨gt, 0, none⟩) 5 tc)).run Tryz.prog w2 = .ok (.string bPass) w2 := hcv
  have hb2 := hws.bl
  have E2 := (HE.out.below hb2).up hb2.size
  have HP2 := toHid (HP.out.more hb2)
  clear hws
  go_wp2_with fail
  refine (read_pass a0 a1 w2 E2).mono ?_
  rintro ev w3 ⟨g3, o3, cap3, rfl, hp3, hb3⟩
  have hb3w := hb2.trans (hb3.mono hb2.size)
  obtain ⟨pa, la, ba, ea, pc, lc, bc, ec, x0, x1, x2, x3, x4, x5⟩ := HP.out.more hb3w
  obtain ⟨pa', la', ba', ea', pc', lc', bc', ec', y0, y1, y2, y3, y4, y5⟩ := hp3
  have HQ := toHid (eqStmt_pass g o cap g3 o3 cap3 pa la ba ea pa' la' ba' ea' pc lc bc ec pc' lc' bc' ec' w3 x0 x1 x2 x3 x4 x5 y0 y1 y2 y3 y4 y5)
  clear x0 x1 x2 x3 x4 x5 y0 y1 y2 y3 y4 y5 hb3
  go_wp2_with fail
  refine HQ.out.mono ?_
  rintro ev w4 ⟨rfl, hb4⟩
  have hb4w := hb3w.trans (hb4.mono hb3w.size)
  clear hb4
  go_wp2
  go_ret2
  exact ⟨rfl, hb4w⟩

theorem isPassT : (bPass.toList == [112, 97, 115, 115, 10]) = true := by kernel_rfl
set_option maxHeartbeats 4000000 in
set_option maxRecDepth 100000 in
theorem lawpass_any (a0 a1 : Addr) (w : World) (E : LEnv w.heap.size a0 a1 w) : Calls Tryz.prog 4 #[] w fun ev w' => ev = .returned (.bool true) ∧ Below w.heap.size w w' := by
  have HR := toHid (read_pass a0 a1 w E)
  have HE := toHid E
  clear E
  go_enter Tryz.func4, Tryz.ntmps4
  go_wp2_with fail
  refine HR.out.mono ?_
  rintro ev w1 ⟨g, o, cap, rfl, hp, hb1⟩
  have HT := toHid (text_pass a0 a1 g o cap w1 ((HE.out.below hb1).up hb1.size) hp)
  obtain ⟨pa, la, ba, ea, pc, lc, bc, ec, x0, _⟩ := hp
  go_wp2_with fail
  refine HT.out.mono ?_
  rintro ev w2 ⟨rfl, hb2⟩
  have hb2w := hb1.trans (hb2.mono hb1.size)
  have i2 := isPassT
  clear hb2
  go_wp2
  go_ret
  exact ⟨rfl, hb2w⟩
end Go.Proofs.YtajkahckmhipkaaGreatDoor
