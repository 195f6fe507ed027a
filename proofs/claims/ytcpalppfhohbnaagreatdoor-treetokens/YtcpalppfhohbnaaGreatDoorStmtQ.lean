/- Package tree: statement (written by tools/tree/stmt.py). -/
import Derived.Test.YtcpalppfhohbnaaGreatDoorStmtF
import Derived.Test.YtcpalppfhohbnaaGreatDoorStmtG
namespace Go.Proofs.YtcpalppfhohbnaaGreatDoor
open Go.RowKit

def kWhile : ByteArray := ⟨#[119, 104, 105, 108, 101]⟩
def pWhile (one blk : Nat → Out (List (DataW Unit))) (k : Nat) : Out (DataW Unit) := match one k with
  | .error y => .error y
  | .ok (el, k1) => match blk k1 with
    | .error y => .error y
    | .ok (ss, k2) => .ok (mkS kWhile ⟨#[]⟩ [] el ss [], k2)
def pStatement (l : List (ByteArray × ByteArray × Nat)) (choice whil each func att line : Nat → Out (DataW Unit)) (k : Nat) : Out (DataW Unit) :=
  bif markAt l k [kIf] then choice (k + 1) else bif markAt l k [kWhile] then whil (k + 1) else bif markAt l k [kFor] then each (k + 1) else bif markAt l k [kDef] then func (k + 1) else bif markAt l k [kTry] then att (k + 1) else (match line k with
    | .error y => .error y
    | .ok (s, k1) => bif isKind l k1 [110, 101, 119, 108, 105, 110, 101] then .ok (s, k1 + 1) else .error (k1, false))

set_option maxHeartbeats 8000000 in
set_option maxRecDepth 100000 in
theorem statement_any {p g cap : Nat} {rk : Value} {l : List (ByteArray × ByteArray × Nat)} {k bl dp : Nat} {a0 a1 : Addr} (T : TokS l) (hk : k < l.length) (one blk : Nat → Out (List (DataW Unit))) (choice each func att line : Nat → Out (DataW Unit))
    (h1 : ∀ k', k < k' → k' < l.length → ReadsL 48 #[.pointer (some ⟨p, 0, none⟩)] p g cap rk l k' bl dp a0 a1 (one k'))
    (h2 : ∀ k', k < k' → k' < l.length → ReadsSL 49 #[.pointer (some ⟨p, 0, none⟩)] p g cap rk l k' bl dp a0 a1 (blk k'))
    (hC : ∀ k', k < k' → k' < l.length → ReadsS 47 #[.pointer (some ⟨p, 0, none⟩)] p g cap rk l k' bl dp a0 a1 (choice k'))
    (hE : ∀ k', k < k' → k' < l.length → ReadsS 50 #[.pointer (some ⟨p, 0, none⟩)] p g cap rk l k' bl dp a0 a1 (each k'))
    (hF : ∀ k', k < k' → k' < l.length → ReadsS 51 #[.pointer (some ⟨p, 0, none⟩)] p g cap rk l k' bl dp a0 a1 (func k'))
    (hA : ∀ k', k < k' → k' < l.length → ReadsS 52 #[.pointer (some ⟨p, 0, none⟩)] p g cap rk l k' bl dp a0 a1 (att k'))
    (hL : ReadsS 53 #[.pointer (some ⟨p, 0, none⟩)] p g cap rk l k bl dp a0 a1 (line k)) : ReadsS 28 #[.pointer (some ⟨p, 0, none⟩)] p g cap rk l k bl dp a0 a1 (pStatement l choice (pWhile one blk) each func att line k) := by
  intro w R E X
  have hl := T.ok.hl
  have A0 := st_start R
  have HE := toHid E
  have HX := toHid X
  obtain ⟨o, ho⟩ : ∃ o, pStatement l choice (pWhile one blk) each func att line k = o := ⟨_, rfl⟩
  rw [ho]
  have HO := toHid ho
  have HPE : Hid (∀ y ev w', o = .error y → faultAt l p a0 a1 w y ev w' → PostS (fun b => w.heap.size ≤ b) p g cap rk l k bl dp a0 a1 w o ev w') := by
    rintro y ev w' rfl h
    exact h
  have hpl := A0.pl
  have hgl := A0.gl
  obtain ⟨x, hx⟩ : ∃ x, l[k]? = some x := ⟨l[k], by simp [hk]⟩
  have hs0 : (w.alloc (.cells #[.string ⟨#[]⟩, .string ⟨#[]⟩, .slice none 0 0, .slice none 0 0, .slice none 0 0, .slice none 0 0] 40)).heap.size = w.heap.size + 1 := by simp
  have HA0 := toHid A0
  have HP0 := toHid (passMark_any A0.rd hx hl kIf)
  have HH1 := toHid h1
  have HH2 := toHid h2
  have HHC := toHid hC
  have HHE := toHid hE
  have HHF := toHid hF
  have HHA := toHid hA
  have HHL := toHid hL
  have HMX := toHid (fun t => markAt_of hx [t])
  have HKK : Hid (∀ ts, markB x ts = true → k + 1 < l.length) := fun ts h => T.ok.hen.next hx h
  have HHX := toHid hx
  clear R E X A0 ho h1 h2 hC hE hF hA hL hx
  go_enter Tryz.func28, Tryz.ntmps28
  go_wp2_with fail
  refine HP0.out.mono ?_
  rintro ev w1 ⟨rfl, R0, K0⟩
  have hz0 := K0.below.size
  rw [hs0] at hz0
  cases hm0 : markB x [kIf] with
  | true =>
  rw [hm0, if_pos rfl] at R0
  have hk1 := HKK.out _ hm0
  have A' := HA0.out.go R0 K0
  have HA' := toHid A'
  have HC := toHid (HHC.out (k + 1) (by omega) hk1 _ A'.rd (HE.out.keeps A'.ks) (HX.out.keeps A'.ks))
  clear R0 K0 A' HP0
  go_wp2_with fail
  refine HC.out.mono ?_
  intro ev w9 hP
  rcases hP.parts with ⟨s4, k4, kd4, nm4, pa4, pn4, pc4, la4, ln4, lc4, ba4, bn4, bc4, ea4, en4, ec4, q4, rfl, hrep4, R4, K4, hk4, hk4l⟩ | ⟨y, b, q4, rfl, hf⟩
  rotate_left
  · have ho2 : o = .error y := by
      rw [← HO.out, pStatement]
      rw [HMX.out, hm0, cond_true, q4]
    have HF := toHid (HPE.out _ _ _ ho2 (faultAt.after HA'.out.ks.below hf))
    clear hP HC hf
    go_wp2_with fail
    exact ⟨rfl, HF.out⟩
  have A9 := HA'.out.go R4 K4
  have ho6 : o = .ok (s4, k4) := by
    rw [← HO.out, pStatement]
    rw [HMX.out, hm0, cond_true, q4]
  have hZ := st_done (c0 := .string kd4) (c1 := .string nm4) (c2 := .slice pa4 pn4 pc4) (c3 := .slice la4 ln4 lc4) (c4 := .slice ba4 bn4 bc4) (c5 := .slice ea4 en4 ec4) A9 (hrep4) (fun b hb => by omega)
  have HZ := toHid hZ
  obtain ⟨u0, u1, u2, u3, u4, u5, uf⟩ := stmt_block A9.b4
  have uf0 := uf 0
  have uf1 := uf 1
  have uf2 := uf 2
  have uf3 := uf 3
  have uf4 := uf 4
  have uf5 := uf 5
  have ul := lt_of_heap A9.b4
  have HO6 := toHid ho6
  clear hP HC A9 hrep4 R4 K4 q4 uf ho6 hZ
  go_wp2_with fail
  obtain ⟨z1, z2, z3, z4⟩ := HZ.out
  refine bodyPost_ret (results_stmt _ 2 rfl _ _ w.heap.size _ _ _ _ _ _ rfl z1) rfl ?_
  rw [HO6.out]
  exact ⟨_, _, _, _, _, _, rfl, z2, z3, z4, by omega, hk4l⟩
  | false =>
  rw [hm0, if_neg (by decide)] at R0
  have A1 := HA0.out.go R0 K0
  have HA1 := toHid A1
  have HP1 := toHid (passMark_any A1.rd HHX.out hl kWhile)
  clear R0 K0 A1 HP0
  go_wp2_with fail
  refine HP1.out.mono ?_
  rintro ev w2 ⟨rfl, R1, K1⟩
  have hz1 := K1.below.size
  cases hm1 : markB x [kWhile] with
  | true =>
  rw [hm1, if_pos rfl] at R1
  have hk1 := HKK.out _ hm1
  have A' := HA1.out.go R1 K1
  have HA' := toHid A'
  have HC := toHid (HH1.out (k + 1) (by omega) hk1 _ A'.rd (HE.out.keeps A'.ks) (HX.out.keeps A'.ks))
  clear R1 K1 A' HP1
  go_wp2_with fail
  refine HC.out.mono ?_
  intro ev w8 hP
  rcases hP.parts with ⟨el, k3, la, lc, q3, rfl, hL3, R3, K3, hk3, hk3l⟩ | ⟨y, b, q3, rfl, hf⟩
  rotate_left
  · have ho2 : o = .error y := by
      rw [← HO.out, pStatement]
      rw [HMX.out, hm0, cond_false, HMX.out, hm1, cond_true, pWhile, q3]
    have HF := toHid (HPE.out _ _ _ ho2 (faultAt.after HA'.out.ks.below hf))
    clear hP HC hf
    go_wp2_with fail
    exact ⟨rfl, HF.out⟩
  have A8 := HA'.out.go R3 K3
  have hs8 := K3.below.size
  have HC8 := toHid (HH2.out k3 (by omega) hk3l _ A8.rd (HE.out.keeps A8.ks) (HX.out.keeps A8.ks))
  have HA8 := toHid A8
  have HL3 := toHid hL3
  have HQ3 := toHid q3
  clear hP HC R3 K3 A8 hL3 q3
  go_wp2_with fail
  refine HC8.out.mono ?_
  intro ev w9 hP
  rcases hP.parts with ⟨ss, k4, ba, bc, q4, rfl, hS4, R4, K4, hk4, hk4l⟩ | ⟨y, b, q4, rfl, hf⟩
  rotate_left
  · have ho2 : o = .error y := by
      rw [← HO.out, pStatement]
      rw [HMX.out, hm0, cond_false, HMX.out, hm1, cond_true, pWhile, HQ3.out]
      simp only [q4]
    have HF := toHid (HPE.out _ _ _ ho2 (faultAt.after HA8.out.ks.below hf))
    clear hP HC8 hf
    go_wp2_with fail
    exact ⟨rfl, HF.out⟩
  have A9 := HA8.out.go R4 K4
  have hL9 : RepL (fun b => w.heap.size < b) w9 la el := HL3.out.same (K4.same (by show ¬ (_ ≤ p); omega)) (fun b hb _ => by show w.heap.size < b; omega)
  have hS9 : RepSL (fun b => w.heap.size < b) w9 ba ss := hS4.same (fun _ _ _ => rfl) (fun b hb _ => by show w.heap.size < b; omega)
  have ho6 : o = .ok (mkS kWhile ⟨#[]⟩ [] el ss [], k4) := by
    rw [← HO.out, pStatement]
    rw [HMX.out, hm0, cond_false, HMX.out, hm1, cond_true, pWhile, HQ3.out]
    simp only [q4]
  have hZ := st_done (c0 := .string kWhile) (c1 := .string ⟨#[]⟩) (c2 := .slice none 0 0) (c3 := .slice la el.length lc) (c4 := .slice ba ss.length bc) (c5 := .slice none 0 0) A9 (mkRepS (kd := kWhile) (nm := ⟨#[]⟩) (pl := []) (es := []) (pc := 0) (lc := lc) (bc := bc) (ec := 0) (RepN.nil _ _ none) hL9 hS9 (RepSL.nil _ _ none)) (fun b hb => hb)
  have HZ := toHid hZ
  obtain ⟨u0, u1, u2, u3, u4, u5, uf⟩ := stmt_block A9.b4
  have uf0 := uf 0
  have uf1 := uf 1
  have uf2 := uf 2
  have uf3 := uf 3
  have uf4 := uf 4
  have uf5 := uf 5
  have ul := lt_of_heap A9.b4
  have HO6 := toHid ho6
  clear hP HC8 A9 hL9 hS9 hS4 R4 K4 q4 uf ho6 hZ
  go_wp2_with fail
  obtain ⟨z1, z2, z3, z4⟩ := HZ.out
  refine bodyPost_ret (results_stmt _ 2 rfl _ _ w.heap.size _ _ _ _ _ _ rfl z1) rfl ?_
  rw [HO6.out]
  exact ⟨_, _, _, _, _, _, rfl, z2, z3, z4, by omega, hk4l⟩
  | false =>
  rw [hm1, if_neg (by decide)] at R1
  have A2 := HA1.out.go R1 K1
  have HA2 := toHid A2
  have HP2 := toHid (passMark_any A2.rd HHX.out hl kFor)
  clear R1 K1 A2 HP1
  go_wp2_with fail
  refine HP2.out.mono ?_
  rintro ev w3 ⟨rfl, R2, K2⟩
  have hz2 := K2.below.size
  cases hm2 : markB x [kFor] with
  | true =>
  rw [hm2, if_pos rfl] at R2
  have hk1 := HKK.out _ hm2
  have A' := HA2.out.go R2 K2
  have HA' := toHid A'
  have HC := toHid (HHE.out (k + 1) (by omega) hk1 _ A'.rd (HE.out.keeps A'.ks) (HX.out.keeps A'.ks))
  clear R2 K2 A' HP2
  go_wp2_with fail
  refine HC.out.mono ?_
  intro ev w9 hP
  rcases hP.parts with ⟨s4, k4, kd4, nm4, pa4, pn4, pc4, la4, ln4, lc4, ba4, bn4, bc4, ea4, en4, ec4, q4, rfl, hrep4, R4, K4, hk4, hk4l⟩ | ⟨y, b, q4, rfl, hf⟩
  rotate_left
  · have ho2 : o = .error y := by
      rw [← HO.out, pStatement]
      rw [HMX.out, hm0, cond_false, HMX.out, hm1, cond_false, HMX.out, hm2, cond_true, q4]
    have HF := toHid (HPE.out _ _ _ ho2 (faultAt.after HA'.out.ks.below hf))
    clear hP HC hf
    go_wp2_with fail
    exact ⟨rfl, HF.out⟩
  have A9 := HA'.out.go R4 K4
  have ho6 : o = .ok (s4, k4) := by
    rw [← HO.out, pStatement]
    rw [HMX.out, hm0, cond_false, HMX.out, hm1, cond_false, HMX.out, hm2, cond_true, q4]
  have hZ := st_done (c0 := .string kd4) (c1 := .string nm4) (c2 := .slice pa4 pn4 pc4) (c3 := .slice la4 ln4 lc4) (c4 := .slice ba4 bn4 bc4) (c5 := .slice ea4 en4 ec4) A9 (hrep4) (fun b hb => by omega)
  have HZ := toHid hZ
  obtain ⟨u0, u1, u2, u3, u4, u5, uf⟩ := stmt_block A9.b4
  have uf0 := uf 0
  have uf1 := uf 1
  have uf2 := uf 2
  have uf3 := uf 3
  have uf4 := uf 4
  have uf5 := uf 5
  have ul := lt_of_heap A9.b4
  have HO6 := toHid ho6
  clear hP HC A9 hrep4 R4 K4 q4 uf ho6 hZ
  go_wp2_with fail
  obtain ⟨z1, z2, z3, z4⟩ := HZ.out
  refine bodyPost_ret (results_stmt _ 2 rfl _ _ w.heap.size _ _ _ _ _ _ rfl z1) rfl ?_
  rw [HO6.out]
  exact ⟨_, _, _, _, _, _, rfl, z2, z3, z4, by omega, hk4l⟩
  | false =>
  rw [hm2, if_neg (by decide)] at R2
  have A3 := HA2.out.go R2 K2
  have HA3 := toHid A3
  have HP3 := toHid (passMark_any A3.rd HHX.out hl kDef)
  clear R2 K2 A3 HP2
  go_wp2_with fail
  refine HP3.out.mono ?_
  rintro ev w4 ⟨rfl, R3, K3⟩
  have hz3 := K3.below.size
  cases hm3 : markB x [kDef] with
  | true =>
  rw [hm3, if_pos rfl] at R3
  have hk1 := HKK.out _ hm3
  have A' := HA3.out.go R3 K3
  have HA' := toHid A'
  have HC := toHid (HHF.out (k + 1) (by omega) hk1 _ A'.rd (HE.out.keeps A'.ks) (HX.out.keeps A'.ks))
  clear R3 K3 A' HP3
  go_wp2_with fail
  refine HC.out.mono ?_
  intro ev w9 hP
  rcases hP.parts with ⟨s4, k4, kd4, nm4, pa4, pn4, pc4, la4, ln4, lc4, ba4, bn4, bc4, ea4, en4, ec4, q4, rfl, hrep4, R4, K4, hk4, hk4l⟩ | ⟨y, b, q4, rfl, hf⟩
  rotate_left
  · have ho2 : o = .error y := by
      rw [← HO.out, pStatement]
      rw [HMX.out, hm0, cond_false, HMX.out, hm1, cond_false, HMX.out, hm2, cond_false, HMX.out, hm3, cond_true, q4]
    have HF := toHid (HPE.out _ _ _ ho2 (faultAt.after HA'.out.ks.below hf))
    clear hP HC hf
    go_wp2_with fail
    exact ⟨rfl, HF.out⟩
  have A9 := HA'.out.go R4 K4
  have ho6 : o = .ok (s4, k4) := by
    rw [← HO.out, pStatement]
    rw [HMX.out, hm0, cond_false, HMX.out, hm1, cond_false, HMX.out, hm2, cond_false, HMX.out, hm3, cond_true, q4]
  have hZ := st_done (c0 := .string kd4) (c1 := .string nm4) (c2 := .slice pa4 pn4 pc4) (c3 := .slice la4 ln4 lc4) (c4 := .slice ba4 bn4 bc4) (c5 := .slice ea4 en4 ec4) A9 (hrep4) (fun b hb => by omega)
  have HZ := toHid hZ
  obtain ⟨u0, u1, u2, u3, u4, u5, uf⟩ := stmt_block A9.b4
  have uf0 := uf 0
  have uf1 := uf 1
  have uf2 := uf 2
  have uf3 := uf 3
  have uf4 := uf 4
  have uf5 := uf 5
  have ul := lt_of_heap A9.b4
  have HO6 := toHid ho6
  clear hP HC A9 hrep4 R4 K4 q4 uf ho6 hZ
  go_wp2_with fail
  obtain ⟨z1, z2, z3, z4⟩ := HZ.out
  refine bodyPost_ret (results_stmt _ 2 rfl _ _ w.heap.size _ _ _ _ _ _ rfl z1) rfl ?_
  rw [HO6.out]
  exact ⟨_, _, _, _, _, _, rfl, z2, z3, z4, by omega, hk4l⟩
  | false =>
  rw [hm3, if_neg (by decide)] at R3
  have A4 := HA3.out.go R3 K3
  have HA4 := toHid A4
  have HP4 := toHid (passMark_any A4.rd HHX.out hl kTry)
  clear R3 K3 A4 HP3
  go_wp2_with fail
  refine HP4.out.mono ?_
  rintro ev w5 ⟨rfl, R4, K4⟩
  have hz4 := K4.below.size
  cases hm4 : markB x [kTry] with
  | true =>
  rw [hm4, if_pos rfl] at R4
  have hk1 := HKK.out _ hm4
  have A' := HA4.out.go R4 K4
  have HA' := toHid A'
  have HC := toHid (HHA.out (k + 1) (by omega) hk1 _ A'.rd (HE.out.keeps A'.ks) (HX.out.keeps A'.ks))
  clear R4 K4 A' HP4
  go_wp2_with fail
  refine HC.out.mono ?_
  intro ev w9 hP
  rcases hP.parts with ⟨s4, k4, kd4, nm4, pa4, pn4, pc4, la4, ln4, lc4, ba4, bn4, bc4, ea4, en4, ec4, q4, rfl, hrep4, R4, K4, hk4, hk4l⟩ | ⟨y, b, q4, rfl, hf⟩
  rotate_left
  · have ho2 : o = .error y := by
      rw [← HO.out, pStatement]
      rw [HMX.out, hm0, cond_false, HMX.out, hm1, cond_false, HMX.out, hm2, cond_false, HMX.out, hm3, cond_false, HMX.out, hm4, cond_true, q4]
    have HF := toHid (HPE.out _ _ _ ho2 (faultAt.after HA'.out.ks.below hf))
    clear hP HC hf
    go_wp2_with fail
    exact ⟨rfl, HF.out⟩
  have A9 := HA'.out.go R4 K4
  have ho6 : o = .ok (s4, k4) := by
    rw [← HO.out, pStatement]
    rw [HMX.out, hm0, cond_false, HMX.out, hm1, cond_false, HMX.out, hm2, cond_false, HMX.out, hm3, cond_false, HMX.out, hm4, cond_true, q4]
  have hZ := st_done (c0 := .string kd4) (c1 := .string nm4) (c2 := .slice pa4 pn4 pc4) (c3 := .slice la4 ln4 lc4) (c4 := .slice ba4 bn4 bc4) (c5 := .slice ea4 en4 ec4) A9 (hrep4) (fun b hb => by omega)
  have HZ := toHid hZ
  obtain ⟨u0, u1, u2, u3, u4, u5, uf⟩ := stmt_block A9.b4
  have uf0 := uf 0
  have uf1 := uf 1
  have uf2 := uf 2
  have uf3 := uf 3
  have uf4 := uf 4
  have uf5 := uf 5
  have ul := lt_of_heap A9.b4
  have HO6 := toHid ho6
  clear hP HC A9 hrep4 R4 K4 q4 uf ho6 hZ
  go_wp2_with fail
  obtain ⟨z1, z2, z3, z4⟩ := HZ.out
  refine bodyPost_ret (results_stmt _ 2 rfl _ _ w.heap.size _ _ _ _ _ _ rfl z1) rfl ?_
  rw [HO6.out]
  exact ⟨_, _, _, _, _, _, rfl, z2, z3, z4, by omega, hk4l⟩
  | false =>
  rw [hm4, if_neg (by decide)] at R4
  have A5 := HA4.out.go R4 K4
  have HA5 := toHid A5
  have HC := toHid (HHL.out _ A5.rd (HE.out.keeps A5.ks) (HX.out.keeps A5.ks))
  clear R4 K4 A5 HP4
  go_wp2_with fail
  refine HC.out.mono ?_
  intro ev w8 hP
  rcases hP.parts with ⟨s4, k4, kd4, nm4, pa4, pn4, pc4, la4, ln4, lc4, ba4, bn4, bc4, ea4, en4, ec4, q4, rfl, hrep4, R4, K4, hk4, hk4l⟩ | ⟨y, b, q4, rfl, hf⟩
  rotate_left
  · have ho2 : o = .error y := by
      rw [← HO.out, pStatement]
      rw [HMX.out, hm0, cond_false, HMX.out, hm1, cond_false, HMX.out, hm2, cond_false, HMX.out, hm3, cond_false, HMX.out, hm4, cond_false, q4]
    have HF := toHid (HPE.out _ _ _ ho2 (faultAt.after HA5.out.ks.below hf))
    clear hP HC hf
    go_wp2_with fail
    exact ⟨rfl, HF.out⟩
  obtain ⟨x4, hx4⟩ : ∃ x, l[k4]? = some x := ⟨l[k4], by simp [hk4l]⟩
  have hba8 : Below w8.heap.size w8 (w8.alloc (.cells #[.string kd4, .string nm4, .slice pa4 pn4 pc4, .slice la4 ln4 lc4, .slice ba4 bn4 bc4, .slice ea4 en4 ec4] 40)) := (Below.refl _ _).alloc (Nat.le_refl _) _
  have hs8 := K4.below.size
  have A8 := (HA5.out.go R4 K4).more hba8
  have hB8 : (w8.alloc (.cells #[.string kd4, .string nm4, .slice pa4 pn4 pc4, .slice la4 ln4 lc4, .slice ba4 bn4 bc4, .slice ea4 en4 ec4] 40)).heap[w8.heap.size]? = some (.cells #[.string kd4, .string nm4, .slice pa4 pn4 pc4, .slice la4 ln4 lc4, .slice ba4 bn4 bc4, .slice ea4 en4 ec4] 40) := heap_alloc_new w8 _
  have hrep8 := hrep4.same (S' := fun b => w.heap.size < b) (same_below hba8) (fun b hb _ => by show w.heap.size < b; omega)
  have HA8 := toHid A8
  have HB8 := toHid hB8
  have HRP := toHid hrep8
  have HQ4 := toHid q4
  cases hn : isKind l k4 [110, 101, 119, 108, 105, 110, 101] with
  | false =>
  have hn' := (isKind_of hx4 [110, 101, 119, 108, 105, 110, 101]).symm.trans hn
  have HC8 := toHid (need_fail A8.rd (HE.out.keeps A8.ks) hx4 ⟨#[110, 101, 119, 108, 105, 110, 101]⟩ (by rw [bytesNL]; exact hn'))
  clear hP HC R4 K4 A8 hrep4 q4 hba8 hB8 hrep8
  go_wp2_with fail
  refine HC8.out.mono ?_
  rintro ev w9 ⟨t, g1, b, rfl, g2⟩
  have ho2 : o = .error (k4, false) := by
    rw [← HO.out, pStatement]
    rw [HMX.out, hm0, cond_false, HMX.out, hm1, cond_false, HMX.out, hm2, cond_false, HMX.out, hm3, cond_false, HMX.out, hm4, cond_false, HQ4.out]
    simp only [hn, cond_false]
  have HF := toHid (HPE.out _ _ _ ho2 (faultAt.after HA8.out.ks.below ⟨t, g1, b, rfl, g2⟩))
  clear g1 g2 HC8
  go_wp2_with fail
  exact ⟨rfl, HF.out⟩
  | true =>
  have hn' := (isKind_of hx4 [110, 101, 119, 108, 105, 110, 101]).symm.trans hn
  have hk5 := T.next hn (by decide)
  have HC8 := toHid (need_any A8.rd hx4 hl ⟨#[110, 101, 119, 108, 105, 110, 101]⟩ (by rw [bytesNL]; exact hn'))
  clear hP HC R4 K4 A8 hrep4 q4 hba8 hB8 hrep8
  go_wp2_with fail
  refine HC8.out.mono ?_
  rintro ev w9 ⟨rfl, R9, K9⟩
  have A9 := HA8.out.go R9 K9
  have hrep9 := HRP.out.same (S' := fun b => w.heap.size < b) (K9.same (by show ¬ (_ < p); omega)) (fun b hb _ => hb)
  have hB9 := (K9.block w8.heap.size (by omega) (lt_of_heap HB8.out)).trans HB8.out
  obtain ⟨v0, v1, v2, v3, v4, v5, _⟩ := stmt_block hB9
  have vl := lt_of_heap hB9
  have ho6 : o = .ok (s4, k4 + 1) := by
    rw [← HO.out, pStatement]
    rw [HMX.out, hm0, cond_false, HMX.out, hm1, cond_false, HMX.out, hm2, cond_false, HMX.out, hm3, cond_false, HMX.out, hm4, cond_false, HQ4.out]
    simp only [hn, cond_true]
  have hZ := st_done (c0 := .string kd4) (c1 := .string nm4) (c2 := .slice pa4 pn4 pc4) (c3 := .slice la4 ln4 lc4) (c4 := .slice ba4 bn4 bc4) (c5 := .slice ea4 en4 ec4) A9 (hrep9) (fun b hb => hb)
  have HZ := toHid hZ
  obtain ⟨u0, u1, u2, u3, u4, u5, uf⟩ := stmt_block A9.b4
  have uf0 := uf 0
  have uf1 := uf 1
  have uf2 := uf 2
  have uf3 := uf 3
  have uf4 := uf 4
  have uf5 := uf 5
  have ul := lt_of_heap A9.b4
  have HO6 := toHid ho6
  clear HC8 A9 hrep9 R9 K9 hB9 uf ho6 hZ
  go_wp2_with fail
  obtain ⟨z1, z2, z3, z4⟩ := HZ.out
  refine bodyPost_ret (results_stmt _ 2 rfl _ _ w.heap.size _ _ _ _ _ _ rfl z1) rfl ?_
  rw [HO6.out]
  exact ⟨_, _, _, _, _, _, rfl, z2, z3, z4, by omega, hk5⟩
end Go.Proofs.YtcpalppfhohbnaaGreatDoor
