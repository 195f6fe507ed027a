/- Package tree: two statements pass are the same. -/
import Derived.Test.YtcpalppfhohbnaaGreatDoorPassA
import Derived.Test.YtcpalppfhohbnaaGreatDoorCopyCToCopyD
import Derived.Test.YtcpalppfhohbnaaGreatDoorCopyG
import Derived.Test.YtcpalppfhohbnaaGreatDoorTextC
namespace Go.Proofs.YtcpalppfhohbnaaGreatDoor
open Go.RowKit

theorem eqStr_none (a b : Option Addr) (c d : Nat) (w : World) : Calls Tryz.prog 43 #[.slice a 0 c, .slice b 0 d] w fun ev w' => ev = .returned (.bool true) ∧ w' = w := by
  go_enter Tryz.func43, Tryz.ntmps43
  go_wp2_with fail
  refine wp_loop_rounds 1 ?_
  rw [rounds_succ]
  go_wp2
  go_ret
  exact ⟨rfl, rfl⟩
theorem eqExpr_none (a b : Option Addr) (c d : Nat) (f : Value) (w : World) : Calls Tryz.prog 44 #[.slice a 0 c, .slice b 0 d, f] w fun ev w' => ev = .returned (.bool true) ∧ w' = w := by
  go_enter Tryz.func44, Tryz.ntmps44
  go_wp2_with fail
  refine wp_loop_rounds 1 ?_
  rw [rounds_succ]
  go_wp2
  go_ret
  exact ⟨rfl, rfl⟩
theorem eqStmt_none (a b : Option Addr) (c d : Nat) (f : Value) (w : World) : Calls Tryz.prog 25 #[.slice a 0 c, .slice b 0 d, f] w fun ev w' => ev = .returned (.bool true) ∧ w' = w := by
  go_enter Tryz.func25, Tryz.ntmps25
  go_wp2_with fail
  refine wp_loop_rounds 1 ?_
  rw [rounds_succ]
  go_wp2
  go_ret
  exact ⟨rfl, rfl⟩

set_option maxHeartbeats 4000000 in
set_option maxRecDepth 100000 in
theorem sameStmt_pass (pa la ba ea pa' la' ba' ea' : Option Addr) (pc lc bc ec pc' lc' bc' ec' : Nat) (w : World) :
    Calls Tryz.prog 26 #[.agg #[.string kPs, .string ⟨#[]⟩, .slice pa 0 pc, .slice la 0 lc, .slice ba 0 bc, .slice ea 0 ec], .agg #[.string kPs, .string ⟨#[]⟩, .slice pa' 0 pc', .slice la' 0 lc', .slice ba' 0 bc', .slice ea' 0 ec']] w fun ev w' => ev = .returned (.bool true) ∧ Below w.heap.size w w' := by
  go_enter Tryz.func26, Tryz.ntmps26
  go_wp2_with fail
  refine (eqStr_none _ _ _ _ _).mono ?_
  rintro ev w1 ⟨rfl, rfl⟩
  go_wp2_with fail
  refine (eqExpr_none _ _ _ _ _ _).mono ?_
  rintro ev w1 ⟨rfl, rfl⟩
  go_wp2_with fail
  refine (eqStmt_none _ _ _ _ _ _).mono ?_
  rintro ev w1 ⟨rfl, rfl⟩
  go_wp2_with fail
  refine (eqStmt_none _ _ _ _ _ _).mono ?_
  rintro ev w1 ⟨rfl, rfl⟩
  go_wp2
  go_ret
  exact ⟨rfl, ((Below.refl _ _).alloc (Nat.le_refl _) _).alloc (by simp) _⟩

set_option maxHeartbeats 4000000 in
set_option maxRecDepth 100000 in
theorem eqStmt_pass (g o cap g' o' cap' : Nat) (pa la ba ea pa' la' ba' ea' : Option Addr) (pc lc bc ec pc' lc' bc' ec' : Nat) (w : World)
    (x0 : w.cell? ⟨g, o, none⟩ = some (.string kPs)) (x1 : w.cell? ⟨g, o + 1, none⟩ = some (.string ⟨#[]⟩)) (x2 : w.cell? ⟨g, o + 2, none⟩ = some (.slice pa 0 pc)) (x3 : w.cell? ⟨g, o + 3, none⟩ = some (.slice la 0 lc)) (x4 : w.cell? ⟨g, o + 4, none⟩ = some (.slice ba 0 bc)) (x5 : w.cell? ⟨g, o + 5, none⟩ = some (.slice ea 0 ec))
    (y0 : w.cell? ⟨g', o', none⟩ = some (.string kPs)) (y1 : w.cell? ⟨g', o' + 1, none⟩ = some (.string ⟨#[]⟩)) (y2 : w.cell? ⟨g', o' + 2, none⟩ = some (.slice pa' 0 pc')) (y3 : w.cell? ⟨g', o' + 3, none⟩ = some (.slice la' 0 lc')) (y4 : w.cell? ⟨g', o' + 4, none⟩ = some (.slice ba' 0 bc')) (y5 : w.cell? ⟨g', o' + 5, none⟩ = some (.slice ea' 0 ec')) :
    Calls Tryz.prog 25 #[.slice (some ⟨g, o, none⟩) 1 cap, .slice (some ⟨g', o', none⟩) 1 cap', .func (.func 26) #[] #[]] w fun ev w' => ev = .returned (.bool true) ∧ Below w.heap.size w w' := by
  have hgl := lt_of_cell x0
  have hgl' := lt_of_cell y0
  go_enter Tryz.func25, Tryz.ntmps25
  go_wp2_with fail
  refine wp_loop_rounds 2 ?_
  rw [rounds_succ]
  go_wp2_with fail
  refine (sameStmt_pass _ _ _ _ _ _ _ _ _ _ _ _ _ _ _ _ _).mono ?_
  rintro ev w1 ⟨rfl, hb⟩
  have hbw : Below w.heap.size w w1 := (((Below.refl _ _).alloc (Nat.le_refl _) _).alloc (by simp) _).trans (hb.mono (by simp; omega))
  clear hb
  go_wp2_with fail
  rw [rounds_succ]
  go_wp2
  go_ret
  exact ⟨rfl, hbw⟩
end Go.Proofs.YtcpalppfhohbnaaGreatDoor

/- The law's closed fact pass(). -/
namespace Go.Proofs.YtcpalppfhohbnaaGreatDoor
open Go.RowKit Go.Lib

def bPass : ByteArray := ⟨#[112, 97, 115, 115, 10]⟩
def mPass : List (ByteArray × ByteArray × Nat) := [(kWord, kPs, 0), (kNewline, ⟨#[]⟩, 4), (kEnd, ⟨#[]⟩, 5)]
theorem lexP_pass : lexP bPass = .ok (mPass.length, cellsOf mPass) := by kernel_rfl
theorem pRead_pass : pRead mPass = .ok ([mkS kPs ⟨#[]⟩ [] [] [] []], 2) := by kernel_rfl
theorem cellsOf_inj : ∀ {l m : List (ByteArray × ByteArray × Nat)}, cellsOf l = cellsOf m → l = m
  | [], [], _ => rfl
  | [], _ :: _, h => by simp [cellsOf, tokCells] at h
  | _ :: _, [], h => by simp [cellsOf, tokCells] at h
  | (a, b, c) :: l, (a', b', c') :: m, h => by
    have h' : tokCells a b c ++ cellsOf l = tokCells a' b' c' ++ cellsOf m := by simpa [cellsOf] using h
    simp [tokCells] at h'
    obtain ⟨rfl, rfl, h3, h4⟩ := h'
    have h5 : c = c' := by omega
    rw [h5, cellsOf_inj h4]

/-- Six cells at a place that hold the statement pass. -/
def IsPass (w : World) (g o : Nat) : Prop := ∃ (pa la ba ea : Option Addr) (pc lc bc ec : Nat), w.cell? ⟨g, o, none⟩ = some (.string kPs) ∧ w.cell? ⟨g, o + 1, none⟩ = some (.string ⟨#[]⟩) ∧ w.cell? ⟨g, o + 2, none⟩ = some (.slice pa 0 pc) ∧ w.cell? ⟨g, o + 3, none⟩ = some (.slice la 0 lc) ∧ w.cell? ⟨g, o + 4, none⟩ = some (.slice ba 0 bc) ∧ w.cell? ⟨g, o + 5, none⟩ = some (.slice ea 0 ec)
theorem IsPass.more {w w' : World} {g o : Nat} (h : IsPass w g o) (hb : Below w.heap.size w w') : IsPass w' g o := by
  obtain ⟨pa, la, ba, ea, pc, lc, bc, ec, h0, h1, h2, h3, h4, h5⟩ := h
  have hl : g < w.heap.size := lt_of_cell h0
  exact ⟨pa, la, ba, ea, pc, lc, bc, ec, (hb.cell (p := ⟨g, o, none⟩) hl).trans h0, (hb.cell (p := ⟨g, o + 1, none⟩) hl).trans h1, (hb.cell (p := ⟨g, o + 2, none⟩) hl).trans h2, (hb.cell (p := ⟨g, o + 3, none⟩) hl).trans h3, (hb.cell (p := ⟨g, o + 4, none⟩) hl).trans h4, (hb.cell (p := ⟨g, o + 5, none⟩) hl).trans h5⟩

theorem read_pass (a0 a1 : Addr) (w : World) (E : LEnv w.heap.size a0 a1 w) : Calls Tryz.prog 6 #[.string bPass] w fun ev w' => ∃ g o cap, ev = .returned (.tuple #[.slice (some ⟨g, o, none⟩) 1 cap, .nilIface]) ∧ IsPass w' g o ∧ Below w.heap.size w w' := by
  refine (read_any bPass a0 a1 w E).mono ?_
  rintro ev w' ⟨hb, ⟨m, ss, k, ba, bc, _, h1, h2, h3, h4⟩ | ⟨hno, _⟩⟩
  rotate_left
  · exact absurd pRead_pass (hno mPass _ _ (by decide) lexP_pass)
  rw [lexP_pass] at h1
  simp only [Except.ok.injEq, Prod.mk.injEq] at h1
  obtain rfl := cellsOf_inj h1.2
  rw [pRead_pass] at h2
  simp only [Except.ok.injEq, Prod.mk.injEq] at h2
  obtain ⟨rfl, rfl⟩ := h2
  obtain ⟨b, o, rfl, _, hx⟩ := h4 (by simp)
  obtain ⟨c0, c1, c2, c3, c4, c5, x0, x1, x2, x3, x4, x5, n, hr⟩ := hx 0 _ rfl
  cases n with
  | zero => exact hr.elim
  | succ n =>
    obtain ⟨kd, nm, pl, el, bd, es, pa, la, ba, ea, pc, lc, bc2, ec, hd, hcs, _⟩ := hr
    simp only [List.cons.injEq, and_true] at hcs
    obtain ⟨rfl, rfl, rfl, rfl, rfl, rfl⟩ := hcs
    obtain ⟨rfl, rfl, rfl, rfl, rfl, rfl⟩ := mkS_inj hd
    exact ⟨b, o, bc, h3, ⟨pa, la, ba, ea, pc, lc, bc2, ec, by simpa using x0, by simpa using x1, by simpa using x2, by simpa using x3, by simpa using x4, by simpa using x5⟩, hb⟩

/-- The writer's text as a string. -/
theorem WS.string {w0 w : World} {p : Nat} {t : ByteArray} (C : WS w0 p t w) (ht : 0 < t.size) : ∃ gt cap, w.cell? ⟨p, 1, none⟩ = some (.slice (some ⟨gt, 0, none⟩) t.size cap) ∧ w.cell? ⟨p, 3, none⟩ = some (.bool false) ∧ (convert 65 9 (.slice (some ⟨gt, 0, none⟩) t.size cap)).run Tryz.prog w = .ok (.string t) w := by
  obtain ⟨rk, v, tm, hb, ho, _⟩ := C.blk
  obtain ⟨c0, c1, c2, c3, cf⟩ := four_cells hb
  rcases ho.2 with ⟨_, h0⟩ | ⟨g, cap, cur, rfl, _, hg, _, _, _, hx⟩
  · omega
  have hs : strOfNums (t.data.toList.map fun c => (c.toNat : Int)) = t := by
    apply ByteArray.ext
    simp [strOfNums, Function.comp_def]
  refine ⟨g, cap, c1, c3, ?_⟩
  have h := run_convert_bytes_arg (P := Tryz.prog) w 65 5 Tryz.underlying65 Tryz.underlying5 g 0 t.size cap (t.data.toList.map fun c => (c.toNat : Int)) (by simp) (fun i hi => by
    rw [Nat.zero_add, cell_of_row w g i cur 5 (0, 0) hg, ← Array.getElem?_toList]
    have e : (cur.toList.take (t.size * 1))[i]? = (strCells t)[i]? := by rw [hx]
    rw [List.getElem?_take, if_pos (by omega)] at e
    rw [e]
    have e3 : t.data[i]? = some (t.data[i]'(by simpa using hi)) := by simp
    simp [strCells, e3]) 9 Tryz.underlying9
  rw [hs] at h
  exact h

set_option maxHeartbeats 4000000 in
set_option maxRecDepth 100000 in
theorem text_pass (a0 a1 : Addr) (g o cap : Nat) (w : World) (E : LEnv w.heap.size a0 a1 w) (hP : IsPass w g o) : Calls Tryz.prog 11 #[.slice (some ⟨g, o, none⟩) 1 cap] w fun ev w' => ev = .returned (.tuple #[.string bPass, .nilIface]) ∧ Below w.heap.size w w' := by
  have HP := toHid hP
  have HE := toHid E
  clear hP E
  go_enter Tryz.func11, Tryz.ntmps11
  go_wp2_with fail
  refine (ranks_any _).mono ?_
  rintro ev w1 ⟨rfl, hw1⟩
  obtain ⟨hb1, hs1, _⟩ := rk_of w
  rw [← hw1] at hb1 hs1
  clear hw1
  have HWS : Hid (WS w (w.heap.size + 9) ⟨#[]⟩ (w1.alloc (.cells #[.slice (some ⟨w.heap.size + 8, 0, none⟩) 8 8, .slice none 0 0, .int .i64 0, .bool false] 67))) := by
    have h := heap_alloc_new w1 (.cells #[.slice (some ⟨w.heap.size + 8, 0, none⟩) 8 8, .slice none 0 0, .int .i64 0, .bool false] 67)
    rw [hs1] at h
    exact ⟨⟨_, _, _, h, ⟨rfl, .inl ⟨rfl, rfl⟩⟩, by simp [Value.ownBlock]⟩, by omega, hb1.alloc hb1.size _⟩
  obtain ⟨pa, la, ba, ea, pc, lc, bc, ec, x0, x1, x2, x3, x4, x5⟩ := HP.out.more HWS.out.bl
  have HX := toHid (statements_pass HWS.out g o cap pa la ba ea pc lc bc ec x0 x1 x2 x3 x4 x5)
  clear x0 x1 x2 x3 x4 x5
  go_wp2_with fail
  refine HX.out.mono ?_
  rintro ev w2 ⟨rfl, hws⟩
  obtain ⟨gt, tc, t1, t3, hcv⟩ := hws.string (by decide)
  replace t1 : w2.cell? ⟨w.heap.size + 9, 1, none⟩ = some (.slice (some ⟨gt, 0, none⟩) 5 tc) := t1
  replace hcv : (convert 65 9 (.slice (some ⟨gt, 0, none⟩) 5 tc)).run Tryz.prog w2 = .ok (.string bPass) w2 := hcv
  have hb2 := hws.bl
  have E2 := (HE.out.below hb2).up hb2.size
  have HP2 := toHid (HP.out.more hb2)
  clear hws
  go_wp2_with fail
  refine (read_pass a0 a1 w2 E2).mono ?_
  rintro ev w3 ⟨g3, o3, cap3, rfl, hp3, hb3⟩
  have hb3w := hb2.trans (hb3.mono hb2.size)
  obtain ⟨pa, la, ba, ea, pc, lc, bc, ec, x0, x1, x2, x3, x4, x5⟩ := HP.out.more hb3w
  obtain ⟨pa', la', ba', ea', pc', lc', bc', ec', y0, y1, y2, y3, y4, y5⟩ := hp3
  have HQ := toHid (eqStmt_pass g o cap g3 o3 cap3 pa la ba ea pa' la' ba' ea' pc lc bc ec pc' lc' bc' ec' w3 x0 x1 x2 x3 x4 x5 y0 y1 y2 y3 y4 y5)
  clear x0 x1 x2 x3 x4 x5 y0 y1 y2 y3 y4 y5 hb3
  go_wp2_with fail
  refine HQ.out.mono ?_
  rintro ev w4 ⟨rfl, hb4⟩
  have hb4w := hb3w.trans (hb4.mono hb3w.size)
  clear hb4
  go_wp2
  go_ret2
  exact ⟨rfl, hb4w⟩

theorem isPassT : (bPass.toList == [112, 97, 115, 115, 10]) = true := by kernel_rfl
set_option maxHeartbeats 4000000 in
set_option maxRecDepth 100000 in
theorem lawpass_any (a0 a1 : Addr) (w : World) (E : LEnv w.heap.size a0 a1 w) : Calls Tryz.prog 4 #[] w fun ev w' => ev = .returned (.bool true) ∧ Below w.heap.size w w' := by
  have HR := toHid (read_pass a0 a1 w E)
  have HE := toHid E
  clear E
  go_enter Tryz.func4, Tryz.ntmps4
  go_wp2_with fail
  refine HR.out.mono ?_
  rintro ev w1 ⟨g, o, cap, rfl, hp, hb1⟩
  have HT := toHid (text_pass a0 a1 g o cap w1 ((HE.out.below hb1).up hb1.size) hp)
  obtain ⟨pa, la, ba, ea, pc, lc, bc, ec, x0, _⟩ := hp
  go_wp2_with fail
  refine HT.out.mono ?_
  rintro ev w2 ⟨rfl, hb2⟩
  have hb2w := hb1.trans (hb2.mono hb1.size)
  have i2 := isPassT
  clear hb2
  go_wp2
  go_ret
  exact ⟨rfl, hb2w⟩
end Go.Proofs.YtcpalppfhohbnaaGreatDoor

/- The law TreeTokens by a walk. -/
namespace Go.Proofs.YtcpalppfhohbnaaGreatDoor
open Go.RowKit

set_option maxHeartbeats 8000000 in
set_option maxRecDepth 100000 in
theorem treeTokens_any (s : ByteArray) (a0 a1 a2 : Addr) (w : World) (E : TEnv w.heap.size a0 a1 a2 w) :
    Calls Tryz.prog 3 #[.string s] w fun ev w' => ev = .returned (.bool true) ∧ Below w.heap.size w w' := by
  by_cases hs : 2000 < s.size
  · have hI : (2000 : Int) < (s.size : Int) := by omega
    go_enter Tryz.func3, Tryz.ntmps3
    go_wp2_with fail
    refine (lawpass_any a0 a1 w E.lenv).mono ?_
    rintro ev w1 ⟨rfl, hb1⟩
    have E1 := (E.below hb1).up hb1.size
    go_wp2_with fail
    refine (one_any a0 a1 w1 E1.lenv).mono ?_
    rintro ev w2 ⟨rfl, hb2⟩
    have hb2w := hb1.trans (hb2.mono hb1.size)
    go_wp2_with fail
    go_ret
    exact ⟨rfl, hb2w⟩
  have hI : ¬ (2000 : Int) < (s.size : Int) := by omega
  go_enter Tryz.func3, Tryz.ntmps3
  go_wp2_with fail
  refine (lawpass_any a0 a1 w E.lenv).mono ?_
  rintro ev w1 ⟨rfl, hb1⟩
  have E1 := (E.below hb1).up hb1.size
  go_wp2_with fail
  refine (one_any a0 a1 w1 E1.lenv).mono ?_
  rintro ev w2 ⟨rfl, hb2⟩
  have hb2w := hb1.trans (hb2.mono hb1.size)
  have E2 := (E.below hb2w).up hb2w.size
  clear hb2
  go_wp2_with fail
  refine (read_any s a0 a1 w2 E2.lenv).mono ?_
  rintro ev w3 ⟨hb3, ⟨m, ss, k, ba, bc, hs6, hlx, hpr, rfl, hR⟩ | ⟨_, t, q, rfl⟩⟩
  rotate_left
  · have hb3w := hb2w.trans (hb3.mono hb2w.size)
    clear hb3
    go_wp2_with fail
    go_ret
    exact ⟨rfl, hb3w⟩
  have hb3w := hb2w.trans (hb3.mono hb2w.size)
  have E3 := (E.below hb3w).up hb3w.size
  have HR := toHid hR.toV
  have HLX := toHid hlx
  have HPR := toHid hpr
  clear hR hlx hpr hb3
  go_wp2_with fail
  refine (lex_told s a0 a1 w3 E3.lenv (by omega)).mono ?_
  rintro ev w4 ⟨v5, v6, rfl, T4, hb4⟩
  have hb4w := hb3w.trans (hb4.mono hb3w.size)
  have E4 := (E.below hb4w).up hb4w.size
  unfold Told at T4
  rw [HLX.out] at T4
  obtain ⟨g, cap, rfl, rfl, hgB, hgl, hc⟩ := T4
  have hml := lexP_bd HLX.out
  obtain ⟨m', hm1, hm2, _, _, hshort⟩ := lexP_fine HLX.out
  obtain rfl := cellsOf_inj hm1
  have HT := toHid (text_any m (some ⟨g, 0, none⟩) g cap (by omega) (fun x hx => by have := hshort x hx; omega) a0 a1 a2 w4 E4 (fun _ => rfl) (fun _ => hgl) (holds_of_cells hc))
  clear hc hshort hm1 hm2
  go_wp2_with fail
  refine HT.out.mono ?_
  rintro ev w5 ⟨⟨rfl, _⟩ | ⟨t, hT, rfl⟩, hb5⟩
  · have hb5w := hb4w.trans (hb5.mono hb4w.size)
    clear hb5
    go_wp2_with fail
    go_ret
    exact ⟨rfl, hb5w⟩
  have hb5w := hb4w.trans (hb5.mono hb4w.size)
  have E5 := (E.below hb5w).up hb5w.size
  obtain ⟨hwt, m2, hl2, hkt⟩ := hT
  have ht6 : t.size ≤ 6000 := by
    have := written_len _ _ _ _ _ (by simp) hwt
    simpa using this
  have hrd : pRead m2 = .ok (ss, k) := (read_al (al_of hkt)).symm.trans HPR.out
  have HL2 := toHid hl2
  have HRD := toHid hrd
  have hb45 := hb4.trans (hb5.mono hb4.size)
  clear hl2 hkt hrd hb5 hb4 hwt
  go_wp2_with fail
  refine (read_any t a0 a1 w5 E5.lenv).mono ?_
  rintro ev w6 ⟨hb6, ⟨m3, ss3, k3, ba3, bc3, _, hlx3, hpr3, rfl, hR3⟩ | ⟨hno, t', q, rfl⟩⟩
  rotate_left
  · exfalso
    exact hno m2 ss k ht6 HL2.out HRD.out
  rw [HL2.out] at hlx3
  simp only [Except.ok.injEq, Prod.mk.injEq] at hlx3
  obtain rfl := cellsOf_inj hlx3.2
  rw [HRD.out] at hpr3
  simp only [Except.ok.injEq, Prod.mk.injEq] at hpr3
  obtain ⟨rfl, rfl⟩ := hpr3
  have hb6w := hb5w.trans (hb6.mono hb5w.size)
  have hb36 := hb45.trans (hb6.mono hb45.size)
  have hsz : OkSL 300000 ss := read_sz (by have := lexP_bd HLX.out; omega) HPR.out
  have HX := toHid (HR.out.same (S' := fun b => w2.heap.size ≤ b) (same_below hb36) (fun b h _ => h))
  have HY := toHid hR3.toV
  have HZ := toHid hsz
  clear hlx3 hR3 hb6 hb36 hb45
  go_wp2_with fail
  refine (back_any _ w6 ba bc ss HX.out HZ.out).mono ?_
  rintro ev w7 ⟨ba7, bc7, rfl, hr7, hb7⟩
  have hb7w := hb6w.trans (hb7.mono hb6w.size)
  have HY7 := toHid (HY.out.same (S' := fun b => w5.heap.size ≤ b) (same_below hb7) (fun b h _ => h))
  have HR7 := toHid hr7
  clear hr7 hb7
  go_wp2_with fail
  refine (back_any _ w7 ba3 bc3 ss HY7.out HZ.out).mono ?_
  rintro ev w8 ⟨ba8, bc8, rfl, hr8, hb8⟩
  have hb8w := hb7w.trans (hb8.mono hb7w.size)
  have HR78 := toHid (HR7.out.same (S' := fun b => w6.heap.size ≤ b) (same_below hb8) (fun b h _ => h))
  have HR8 := toHid hr8
  clear hr8 hb8
  go_wp2_with fail
  refine (same_any _ _ w8 ba7 ba8 bc7 bc8 ss HR78.out HR8.out HZ.out).mono ?_
  rintro ev w9 ⟨rfl, hb9⟩
  have hb9w := hb8w.trans (hb9.mono hb8w.size)
  clear hb9
  go_wp2
  go_ret
  exact ⟨rfl, hb9w⟩
end Go.Proofs.YtcpalppfhohbnaaGreatDoor
