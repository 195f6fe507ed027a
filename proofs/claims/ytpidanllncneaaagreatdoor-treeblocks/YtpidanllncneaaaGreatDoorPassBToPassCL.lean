/- Package tree: two statements pass are the same. -/
import Derived.Test.YtpidanllncneaaaGreatDoorPassA
import Derived.Test.YtpidanllncneaaaGreatDoorReadBToReadC
namespace Go.Proofs.YtpidanllncneaaaGreatDoor
open Go.RowKit

theorem eqStr_none (a b : Option Addr) (c d : Nat) (w : World) : Calls Tryz.prog 26 #[.slice a 0 c, .slice b 0 d] w fun ev w' => ev = .returned (.bool true) ∧ w' = w := by
  go_enter Tryz.func26, Tryz.ntmps26
  go_wp2_with fail
  refine wp_loop_rounds 1 ?_
  rw [rounds_succ]
  go_wp2
  go_ret
  exact ⟨rfl, rfl⟩
theorem eqExpr_none (a b : Option Addr) (c d : Nat) (f : Value) (w : World) : Calls Tryz.prog 27 #[.slice a 0 c, .slice b 0 d, f] w fun ev w' => ev = .returned (.bool true) ∧ w' = w := by
  go_enter Tryz.func27, Tryz.ntmps27
  go_wp2_with fail
  refine wp_loop_rounds 1 ?_
  rw [rounds_succ]
  go_wp2
  go_ret
  exact ⟨rfl, rfl⟩
theorem eqStmt_none (a b : Option Addr) (c d : Nat) (f : Value) (w : World) : Calls Tryz.prog 14 #[.slice a 0 c, .slice b 0 d, f] w fun ev w' => ev = .returned (.bool true) ∧ w' = w := by
  go_enter Tryz.func14, Tryz.ntmps14
  go_wp2_with fail
  refine wp_loop_rounds 1 ?_
  rw [rounds_succ]
  go_wp2
  go_ret
  exact ⟨rfl, rfl⟩

set_option maxHeartbeats 4000000 in
set_option maxRecDepth 100000 in
theorem sameStmt_pass (pa la ba ea pa' la' ba' ea' : Option Addr) (pc lc bc ec pc' lc' bc' ec' : Nat) (w : World) :
    Calls Tryz.prog 15 #[.agg #[.string kPs, .string ⟨#[]⟩, .slice pa 0 pc, .slice la 0 lc, .slice ba 0 bc, .slice ea 0 ec], .agg #[.string kPs, .string ⟨#[]⟩, .slice pa' 0 pc', .slice la' 0 lc', .slice ba' 0 bc', .slice ea' 0 ec']] w fun ev w' => ev = .returned (.bool true) ∧ Below w.heap.size w w' := by
  go_enter Tryz.func15, Tryz.ntmps15
  go_wp2_with fail
  refine (eqStr_none _ _ _ _ _).mono ?_
  rintro ev w1 ⟨rfl, rfl⟩
  go_wp2_with fail
  refine (eqExpr_none _ _ _ _ _ _).mono ?_
  rintro ev w1 ⟨rfl, rfl⟩
  go_wp2_with fail
  refine (eqStmt_none _ _ _ _ _ _).mono ?_
  rintro ev w1 ⟨rfl, rfl⟩
  go_wp2_with fail
  refine (eqStmt_none _ _ _ _ _ _).mono ?_
  rintro ev w1 ⟨rfl, rfl⟩
  go_wp2
  go_ret
  exact ⟨rfl, ((Below.refl _ _).alloc (Nat.le_refl _) _).alloc (by simp) _⟩

set_option maxHeartbeats 4000000 in
set_option maxRecDepth 100000 in
theorem eqStmt_pass (g o cap g' o' cap' : Nat) (pa la ba ea pa' la' ba' ea' : Option Addr) (pc lc bc ec pc' lc' bc' ec' : Nat) (w : World)
    (x0 : w.cell? ⟨g, o, none⟩ = some (.string kPs)) (x1 : w.cell? ⟨g, o + 1, none⟩ = some (.string ⟨#[]⟩)) (x2 : w.cell? ⟨g, o + 2, none⟩ = some (.slice pa 0 pc)) (x3 : w.cell? ⟨g, o + 3, none⟩ = some (.slice la 0 lc)) (x4 : w.cell? ⟨g, o + 4, none⟩ = some (.slice ba 0 bc)) (x5 : w.cell? ⟨g, o + 5, none⟩ = some (.slice ea 0 ec))
    (y0 : w.cell? ⟨g', o', none⟩ = some (.string kPs)) (y1 : w.cell? ⟨g', o' + 1, none⟩ = some (.string ⟨#[]⟩)) (y2 : w.cell? ⟨g', o' + 2, none⟩ = some (.slice pa' 0 pc')) (y3 : w.cell? ⟨g', o' + 3, none⟩ = some (.slice la' 0 lc')) (y4 : w.cell? ⟨g', o' + 4, none⟩ = some (.slice ba' 0 bc')) (y5 : w.cell? ⟨g', o' + 5, none⟩ = some (.slice ea' 0 ec')) :
    Calls Tryz.prog 14 #[.slice (some ⟨g, o, none⟩) 1 cap, .slice (some ⟨g', o', none⟩) 1 cap', .func (.func 15) #[] #[]] w fun ev w' => ev = .returned (.bool true) ∧ Below w.heap.size w w' := by
  have hgl := lt_of_cell x0
  have hgl' := lt_of_cell y0
  go_enter Tryz.func14, Tryz.ntmps14
  go_wp2_with fail
  refine wp_loop_rounds 2 ?_
  rw [rounds_succ]
  go_wp2_with fail
  refine (sameStmt_pass _ _ _ _ _ _ _ _ _ _ _ _ _ _ _ _ _).mono ?_
  rintro ev w1 ⟨rfl, hb⟩
  have hbw : Below w.heap.size w w1 := (((Below.refl _ _).alloc (Nat.le_refl _) _).alloc (by simp) _).trans (hb.mono (by simp; omega))
  clear hb
  go_wp2_with fail
  rw [rounds_succ]
  go_wp2
  go_ret
  exact ⟨rfl, hbw⟩
end Go.Proofs.YtpidanllncneaaaGreatDoor

/- The law's closed fact pass(). -/
namespace Go.Proofs.YtpidanllncneaaaGreatDoor
open Go.RowKit Go.Lib

theorem lits_inj : ∀ {a b : List ByteArray}, (a.map fun x => (DataW.lit (.string x.data.toList) : DataW Unit)) = b.map (fun x => .lit (.string x.data.toList)) → a = b
  | [], [], _ => rfl
  | [], _ :: _, h => by cases h
  | _ :: _, [], h => by cases h
  | x :: a, y :: b, h => by
    simp only [List.map_cons, List.cons.injEq] at h
    obtain ⟨h1, h2⟩ := h
    have h3 : x.data.toList = y.data.toList := by injection h1 with h1; injection h1
    rw [lits_inj h2, bytes_inj (a := x) (b := y) (by rw [toList_data, toList_data]; exact h3)]
theorem mkS_inj {kd kd' nm nm' : ByteArray} {pl pl' : List ByteArray} {el el' bd bd' es es' : List (DataW Unit)} (h : mkS kd nm pl el bd es = mkS kd' nm' pl' el' bd' es') : kd = kd' ∧ nm = nm' ∧ pl = pl' ∧ el = el' ∧ bd = bd' ∧ es = es' := by
  unfold mkS at h
  injection h with h
  simp only [List.cons.injEq, and_true] at h
  obtain ⟨h1, h2, h3, h4, h5, h6⟩ := h
  refine ⟨bytes_inj ?_, bytes_inj ?_, ?_, ?_, ?_, ?_⟩
  · rw [toList_data, toList_data]
    injection h1 with h1
    injection h1
  · rw [toList_data, toList_data]
    injection h2 with h2
    injection h2
  · injection h3 with h3
    exact lits_inj h3
  · injection h4 with h4
  · injection h5 with h5
  · injection h6 with h6
def bPass : ByteArray := ⟨#[112, 97, 115, 115, 10]⟩
def mPass : List (ByteArray × ByteArray × Nat) := [(kWord, kPs, 0), (kNewline, ⟨#[]⟩, 4), (kEnd, ⟨#[]⟩, 5)]
theorem lexP_pass : lexP bPass = .ok (mPass.length, cellsOf mPass) := by kernel_rfl
theorem pRead_pass : pRead mPass = .ok ([mkS kPs ⟨#[]⟩ [] [] [] []], 2) := by kernel_rfl
theorem cellsOf_inj : ∀ {l m : List (ByteArray × ByteArray × Nat)}, cellsOf l = cellsOf m → l = m
  | [], [], _ => rfl
  | [], _ :: _, h => by simp [cellsOf, tokCells] at h
  | _ :: _, [], h => by simp [cellsOf, tokCells] at h
  | (a, b, c) :: l, (a', b', c') :: m, h => by
    have h' : tokCells a b c ++ cellsOf l = tokCells a' b' c' ++ cellsOf m := by simpa [cellsOf] using h
    simp [tokCells] at h'
    obtain ⟨rfl, rfl, h3, h4⟩ := h'
    have h5 : c = c' := by omega
    rw [h5, cellsOf_inj h4]

/-- Six cells at a place that hold the statement pass. -/
def IsPass (w : World) (g o : Nat) : Prop := ∃ (pa la ba ea : Option Addr) (pc lc bc ec : Nat), w.cell? ⟨g, o, none⟩ = some (.string kPs) ∧ w.cell? ⟨g, o + 1, none⟩ = some (.string ⟨#[]⟩) ∧ w.cell? ⟨g, o + 2, none⟩ = some (.slice pa 0 pc) ∧ w.cell? ⟨g, o + 3, none⟩ = some (.slice la 0 lc) ∧ w.cell? ⟨g, o + 4, none⟩ = some (.slice ba 0 bc) ∧ w.cell? ⟨g, o + 5, none⟩ = some (.slice ea 0 ec)
theorem IsPass.more {w w' : World} {g o : Nat} (h : IsPass w g o) (hb : Below w.heap.size w w') : IsPass w' g o := by
  obtain ⟨pa, la, ba, ea, pc, lc, bc, ec, h0, h1, h2, h3, h4, h5⟩ := h
  have hl : g < w.heap.size := lt_of_cell h0
  exact ⟨pa, la, ba, ea, pc, lc, bc, ec, (hb.cell (p := ⟨g, o, none⟩) hl).trans h0, (hb.cell (p := ⟨g, o + 1, none⟩) hl).trans h1, (hb.cell (p := ⟨g, o + 2, none⟩) hl).trans h2, (hb.cell (p := ⟨g, o + 3, none⟩) hl).trans h3, (hb.cell (p := ⟨g, o + 4, none⟩) hl).trans h4, (hb.cell (p := ⟨g, o + 5, none⟩) hl).trans h5⟩

theorem read_pass (a0 a1 : Addr) (w : World) (E : LEnv w.heap.size a0 a1 w) : Calls Tryz.prog 5 #[.string bPass] w fun ev w' => ∃ g o cap, ev = .returned (.tuple #[.slice (some ⟨g, o, none⟩) 1 cap, .nilIface]) ∧ IsPass w' g o ∧ Below w.heap.size w w' := by
  refine (read_any bPass a0 a1 w E).mono ?_
  rintro ev w' ⟨hb, ⟨m, ss, k, ba, bc, _, h1, h2, h3, h4⟩ | ⟨hno, _⟩⟩
  rotate_left
  · exact absurd pRead_pass (hno mPass _ _ (by decide) lexP_pass)
  rw [lexP_pass] at h1
  simp only [Except.ok.injEq, Prod.mk.injEq] at h1
  obtain rfl := cellsOf_inj h1.2
  rw [pRead_pass] at h2
  simp only [Except.ok.injEq, Prod.mk.injEq] at h2
  obtain ⟨rfl, rfl⟩ := h2
  obtain ⟨b, o, rfl, _, hx⟩ := h4 (by simp)
  obtain ⟨c0, c1, c2, c3, c4, c5, x0, x1, x2, x3, x4, x5, n, hr⟩ := hx 0 _ rfl
  cases n with
  | zero => exact hr.elim
  | succ n =>
    obtain ⟨kd, nm, pl, el, bd, es, pa, la, ba, ea, pc, lc, bc2, ec, hd, hcs, _⟩ := hr
    simp only [List.cons.injEq, and_true] at hcs
    obtain ⟨rfl, rfl, rfl, rfl, rfl, rfl⟩ := hcs
    obtain ⟨rfl, rfl, rfl, rfl, rfl, rfl⟩ := mkS_inj hd
    exact ⟨b, o, bc, h3, ⟨pa, la, ba, ea, pc, lc, bc2, ec, by simpa using x0, by simpa using x1, by simpa using x2, by simpa using x3, by simpa using x4, by simpa using x5⟩, hb⟩

/-- The writer's text as a string. -/
theorem WS.string {w0 w : World} {p : Nat} {t : ByteArray} (C : WS w0 p t w) (ht : 0 < t.size) : ∃ gt cap, w.cell? ⟨p, 1, none⟩ = some (.slice (some ⟨gt, 0, none⟩) t.size cap) ∧ w.cell? ⟨p, 3, none⟩ = some (.bool false) ∧ (convert 48 9 (.slice (some ⟨gt, 0, none⟩) t.size cap)).run Tryz.prog w = .ok (.string t) w := by
  obtain ⟨rk, v, tm, hb, ho, _⟩ := C.blk
  obtain ⟨c0, c1, c2, c3, cf⟩ := four_cells hb
  rcases ho.2 with ⟨_, h0⟩ | ⟨g, cap, cur, rfl, _, hg, _, _, _, hx⟩
  · omega
  have hs : strOfNums (t.data.toList.map fun c => (c.toNat : Int)) = t := by
    apply ByteArray.ext
    simp [strOfNums, Function.comp_def]
  refine ⟨g, cap, c1, c3, ?_⟩
  have h := run_convert_bytes_arg (P := Tryz.prog) w 48 5 Tryz.underlying48 Tryz.underlying5 g 0 t.size cap (t.data.toList.map fun c => (c.toNat : Int)) (by simp) (fun i hi => by
    rw [Nat.zero_add, cell_of_row w g i cur 5 (0, 0) hg, ← Array.getElem?_toList]
    have e : (cur.toList.take (t.size * 1))[i]? = (strCells t)[i]? := by rw [hx]
    rw [List.getElem?_take, if_pos (by omega)] at e
    rw [e]
    have e3 : t.data[i]? = some (t.data[i]'(by simpa using hi)) := by simp
    simp [strCells, e3]) 9 Tryz.underlying9
  rw [hs] at h
  exact h

set_option maxHeartbeats 4000000 in
set_option maxRecDepth 100000 in
theorem text_pass (a0 a1 : Addr) (g o cap : Nat) (w : World) (E : LEnv w.heap.size a0 a1 w) (hP : IsPass w g o) : Calls Tryz.prog 7 #[.slice (some ⟨g, o, none⟩) 1 cap] w fun ev w' => ev = .returned (.tuple #[.string bPass, .nilIface]) ∧ Below w.heap.size w w' := by
  have HP := toHid hP
  have HE := toHid E
  clear hP E
  go_enter Tryz.func7, Tryz.ntmps7
  go_wp2_with fail
  refine (ranks_any _).mono ?_
  rintro ev w1 ⟨rfl, hw1⟩
  obtain ⟨hb1, hs1, _⟩ := rk_of w
  rw [← hw1] at hb1 hs1
  clear hw1
  have HWS : Hid (WS w (w.heap.size + 9) ⟨#[]⟩ (w1.alloc (.cells #[.slice (some ⟨w.heap.size + 8, 0, none⟩) 8 8, .slice none 0 0, .int .i64 0, .bool false] 50))) := by
    have h := heap_alloc_new w1 (.cells #[.slice (some ⟨w.heap.size + 8, 0, none⟩) 8 8, .slice none 0 0, .int .i64 0, .bool false] 50)
    rw [hs1] at h
    exact ⟨⟨_, _, _, h, ⟨rfl, .inl ⟨rfl, rfl⟩⟩, by simp [Value.ownBlock]⟩, by omega, hb1.alloc hb1.size _⟩
  obtain ⟨pa, la, ba, ea, pc, lc, bc, ec, x0, x1, x2, x3, x4, x5⟩ := HP.out.more HWS.out.bl
  have HX := toHid (statements_pass HWS.out g o cap pa la ba ea pc lc bc ec x0 x1 x2 x3 x4 x5)
  clear x0 x1 x2 x3 x4 x5
  go_wp2_with fail
  refine HX.out.mono ?_
  rintro ev w2 ⟨rfl, hws⟩
  obtain ⟨gt, tc, t1, t3, hcv⟩ := hws.string (by decide)
  replace t1 : w2.cell? ⟨w.heap.size + 9, 1, none⟩ = some (.slice (some ⟨gt, 0, none⟩) 5 tc) := t1
  replace hcv : (convert 48 9 (.slice (some ⟨gt, 0, none⟩) 5 tc)).run Tryz.prog w2 = .ok (.string bPass) w2 := hcv
  have hb2 := hws.bl
  have E2 := (HE.out.below hb2).up hb2.size
  have HP2 := toHid (HP.out.more hb2)
  clear hws
  go_wp2_with fail
  refine (read_pass a0 a1 w2 E2).mono ?_
  rintro ev w3 ⟨g3, o3, cap3, rfl, hp3, hb3⟩
  have hb3w := hb2.trans (hb3.mono hb2.size)
  obtain ⟨pa, la, ba, ea, pc, lc, bc, ec, x0, x1, x2, x3, x4, x5⟩ := HP.out.more hb3w
  obtain ⟨pa', la', ba', ea', pc', lc', bc', ec', y0, y1, y2, y3, y4, y5⟩ := hp3
  have HQ := toHid (eqStmt_pass g o cap g3 o3 cap3 pa la ba ea pa' la' ba' ea' pc lc bc ec pc' lc' bc' ec' w3 x0 x1 x2 x3 x4 x5 y0 y1 y2 y3 y4 y5)
  clear x0 x1 x2 x3 x4 x5 y0 y1 y2 y3 y4 y5 hb3
  go_wp2_with fail
  refine HQ.out.mono ?_
  rintro ev w4 ⟨rfl, hb4⟩
  have hb4w := hb3w.trans (hb4.mono hb3w.size)
  clear hb4
  go_wp2
  go_ret2
  exact ⟨rfl, hb4w⟩

theorem isPassT : (bPass.toList == [112, 97, 115, 115, 10]) = true := by kernel_rfl
set_option maxHeartbeats 4000000 in
set_option maxRecDepth 100000 in
theorem lawpass_any (a0 a1 : Addr) (w : World) (E : LEnv w.heap.size a0 a1 w) : Calls Tryz.prog 4 #[] w fun ev w' => ev = .returned (.bool true) ∧ Below w.heap.size w w' := by
  have HR := toHid (read_pass a0 a1 w E)
  have HE := toHid E
  clear E
  go_enter Tryz.func4, Tryz.ntmps4
  go_wp2_with fail
  refine HR.out.mono ?_
  rintro ev w1 ⟨g, o, cap, rfl, hp, hb1⟩
  have HT := toHid (text_pass a0 a1 g o cap w1 ((HE.out.below hb1).up hb1.size) hp)
  obtain ⟨pa, la, ba, ea, pc, lc, bc, ec, x0, _⟩ := hp
  go_wp2_with fail
  refine HT.out.mono ?_
  rintro ev w2 ⟨rfl, hb2⟩
  have hb2w := hb1.trans (hb2.mono hb1.size)
  have i2 := isPassT
  clear hb2
  go_wp2
  go_ret
  exact ⟨rfl, hb2w⟩
end Go.Proofs.YtpidanllncneaaaGreatDoor
