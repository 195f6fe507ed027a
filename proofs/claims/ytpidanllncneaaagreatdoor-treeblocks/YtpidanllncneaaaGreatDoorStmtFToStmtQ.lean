/- Package tree: choice (written by tools/tree/choice.py). -/
import Derived.Test.YtpidanllncneaaaGreatDoorStmtCToStmtD
import Derived.Test.YtpidanllncneaaaGreatDoorStmtGToStmtI
namespace Go.Proofs.YtpidanllncneaaaGreatDoor
open Go.RowKit

def kIf : ByteArray := ⟨#[105, 102]⟩
def kElif : ByteArray := ⟨#[101, 108, 105, 102]⟩
def kElse : ByteArray := ⟨#[101, 108, 115, 101]⟩
def pChoice (l : List (ByteArray × ByteArray × Nat)) (one blk : Nat → Out (List (DataW Unit))) : Nat → Nat → Out (DataW Unit)
  | 0, k => .error (k, false)
  | f + 1, k => match one k with
    | .error y => .error y
    | .ok (el, k1) => match blk k1 with
      | .error y => .error y
      | .ok (ss, k2) => bif markAt l k2 [kElif] then (match pChoice l one blk f (k2 + 1) with
          | .error y => .error y
          | .ok (s, k3) => .ok (mkS kIf ⟨#[]⟩ [] el ss [s], k3)) else bif markAt l k2 [kElse] then (match blk (k2 + 1) with
          | .error y => .error y
          | .ok (es, k3) => .ok (mkS kIf ⟨#[]⟩ [] el ss es, k3)) else .ok (mkS kIf ⟨#[]⟩ [] el ss [], k2)
/-- A row of one statement. -/
theorem repSL_one {S : Nat → Prop} {w : World} {b : Nat} {c0 c1 c2 c3 c4 c5 : Value} {s : DataW Unit} (hB : w.heap[b]? = some (.cells #[c0, c1, c2, c3, c4, c5] 33)) (hb : S b) (h : RepS S w [c0, c1, c2, c3, c4, c5] s) : RepSL S w (some ⟨b, 0, none⟩) [s] := by
  intro _
  obtain ⟨u0, u1, u2, u3, u4, u5, _⟩ := stmt_block hB
  refine ⟨b, 0, rfl, hb, fun i x hi => ?_⟩
  cases i with
  | zero =>
    simp at hi
    subst hi
    exact ⟨c0, c1, c2, c3, c4, c5, u0, u1, u2, u3, u4, u5, h⟩
  | succ i => simp at hi

set_option maxHeartbeats 4000000 in
set_option maxRecDepth 100000 in
theorem choice_any {p g cap : Nat} {rk : Value} {l : List (ByteArray × ByteArray × Nat)} {lo bl dp : Nat} {a0 a1 : Addr} (T : TokS l) (one blk : Nat → Out (List (DataW Unit)))
    (h1 : ∀ k', lo ≤ k' → k' < l.length → ReadsL 36 #[.pointer (some ⟨p, 0, none⟩)] p g cap rk l k' bl dp a0 a1 (one k'))
    (h2 : ∀ k', lo ≤ k' → k' < l.length → ReadsSL 37 #[.pointer (some ⟨p, 0, none⟩)] p g cap rk l k' bl dp a0 a1 (blk k')) (f : Nat) : ∀ k, lo ≤ k → k < l.length → l.length - k ≤ f → ReadsS 35 #[.pointer (some ⟨p, 0, none⟩)] p g cap rk l k bl dp a0 a1 (pChoice l one blk f k) := by
  induction f with
  | zero =>
  intro k _ hk hf
  omega
  | succ f IH =>
  intro k hlo hk hfu
  intro w R E X
  have hl := T.ok.hl
  have A0 := st_start R
  have HE := toHid E
  have HX := toHid X
  obtain ⟨o, ho⟩ : ∃ o, pChoice l one blk (f + 1) k = o := ⟨_, rfl⟩
  rw [ho]
  have HO := toHid ho
  have HPE : Hid (∀ y ev w', o = .error y → faultAt l p a0 a1 w y ev w' → PostS (fun b => w.heap.size ≤ b) p g cap rk l k bl dp a0 a1 w o ev w') := by
    rintro y ev w' rfl h
    exact h
  have hpl := A0.pl
  have hgl := A0.gl
  have HC0 := toHid (h1 k hlo hk _ A0.rd (HE.out.keeps A0.ks) (HX.out.keeps A0.ks))
  have HA0 := toHid A0
  have HH2 := toHid h2
  have HIH := toHid IH
  have hs0 : (w.alloc (.cells #[.string ⟨#[]⟩, .string ⟨#[]⟩, .slice none 0 0, .slice none 0 0, .slice none 0 0, .slice none 0 0] 33)).heap.size = w.heap.size + 1 := by simp
  clear R E X A0 ho h1 h2 IH
  go_enter Tryz.func35, Tryz.ntmps35
  go_wp2_with fail
  refine HC0.out.mono ?_
  intro ev w1 hP
  rw [hs0] at hP
  rcases hP.parts with ⟨el, k1, la, lc, q1, rfl, hL1, R1, K1, hk1, hk1l⟩ | ⟨y, b, q1, rfl, hf⟩
  rotate_left
  · have ho2 : o = .error y := by
      rw [← HO.out, pChoice]
      simp only [q1]
    have HF := toHid (HPE.out _ _ _ ho2 (faultAt.after HA0.out.ks.below hf))
    clear hP HC0 hf
    go_wp2_with fail
    exact ⟨rfl, HF.out⟩
  have A1 := HA0.out.go R1 K1
  have hs1 := K1.below.size
  rw [hs0] at hs1
  have HC1 := toHid (HH2.out k1 (by omega) hk1l _ A1.rd (HE.out.keeps A1.ks) (HX.out.keeps A1.ks))
  have HA1 := toHid A1
  have HL1 := toHid hL1
  have HQ1 := toHid q1
  clear hP HC0 R1 K1 A1 hL1 q1
  go_wp2_with fail
  refine HC1.out.mono ?_
  intro ev w2 hP
  rcases hP.parts with ⟨ss, k2, ba, bc, q2, rfl, hS1, R2, K2, hk2, hk2l⟩ | ⟨y, b, q2, rfl, hf⟩
  rotate_left
  · have ho2 : o = .error y := by
      rw [← HO.out, pChoice]
      simp only [HQ1.out, q2]
    have HF := toHid (HPE.out _ _ _ ho2 (faultAt.after HA1.out.ks.below hf))
    clear hP HC1 hf
    go_wp2_with fail
    exact ⟨rfl, HF.out⟩
  have hba : Below w2.heap.size w2 (w2.alloc (.cells #[.string kIf, .string ⟨#[]⟩, .slice none 0 0, .slice la el.length lc, .slice ba ss.length bc, .slice none 0 0] 33)) := (Below.refl _ _).alloc (Nat.le_refl _) _
  have A2 := (HA1.out.go R2 K2).more hba
  have hB2 : (w2.alloc (.cells #[.string kIf, .string ⟨#[]⟩, .slice none 0 0, .slice la el.length lc, .slice ba ss.length bc, .slice none 0 0] 33)).heap[w2.heap.size]? = some (.cells #[.string kIf, .string ⟨#[]⟩, .slice none 0 0, .slice la el.length lc, .slice ba ss.length bc, .slice none 0 0] 33) := heap_alloc_new w2 _
  have hs2 := K2.below.size
  have hL2 : RepL (fun b => w.heap.size < b ∧ b ≠ w2.heap.size) (w2.alloc (.cells #[.string kIf, .string ⟨#[]⟩, .slice none 0 0, .slice la el.length lc, .slice ba ss.length bc, .slice none 0 0] 33)) la el := (HL1.out.same (S' := fun b => w.heap.size + 1 ≤ b) (K2.same (by show ¬ (_ ≤ p); omega)) (fun b h _ => h)).same (same_below hba) (fun b h hl => ⟨by omega, by omega⟩)
  have hS2 : RepSL (fun b => w.heap.size < b ∧ b ≠ w2.heap.size) (w2.alloc (.cells #[.string kIf, .string ⟨#[]⟩, .slice none 0 0, .slice la el.length lc, .slice ba ss.length bc, .slice none 0 0] 33)) ba ss := hS1.same (same_below hba) (fun b hb hl => ⟨by omega, by omega⟩)
  obtain ⟨x2, hx2⟩ : ∃ x, l[k2]? = some x := ⟨l[k2], by simp [hk2l]⟩
  have HC2 := toHid (passMark_any A2.rd hx2 hl kElif)
  have HA2 := toHid A2
  have HB2 := toHid hB2
  have HL2 := toHid hL2
  have HS2 := toHid hS2
  have HQ2 := toHid q2
  clear hP HC1 R2 K2 A2 hB2 hba hL2 hS2 hS1 q2
  go_wp2_with fail
  refine HC2.out.mono ?_
  rintro ev w3 ⟨rfl, R3, K3⟩
  have hB3 := (K3.block w2.heap.size (by omega) (lt_of_heap HB2.out)).trans HB2.out
  have hL3 := HL2.out.same (S' := (fun b => w.heap.size < b ∧ b ≠ w2.heap.size)) (K3.same (fun h => by have := h.1; omega)) (fun b hb _ => hb)
  have hS3 := HS2.out.same (S' := (fun b => w.heap.size < b ∧ b ≠ w2.heap.size)) (K3.same (fun h => by have := h.1; omega)) (fun b hb _ => hb)
  have HB3 := toHid hB3
  have HL3 := toHid hL3
  have HS3 := toHid hS3
  have hlt3 := lt_of_heap hB3
  clear hB3 hL3 hS3 HC2
  cases hm : markB x2 [kElif] with
  | true =>
  rw [hm, if_pos rfl] at R3
  have hk3 := T.ok.hen.next hx2 hm
  have A3 := HA2.out.go R3 K3
  have HC3 := toHid (HIH.out (k2 + 1) (by omega) hk3 (by omega) _ A3.rd (HE.out.keeps A3.ks) (HX.out.keeps A3.ks))
  have HA3 := toHid A3
  clear R3 K3 A3
  go_wp2_with fail
  refine HC3.out.mono ?_
  intro ev w4 hP
  rcases hP.parts with ⟨s4, k4, kd4, nm4, pa4, pn4, pc4, la4, ln4, lc4, ba4, bn4, bc4, ea4, en4, ec4, q4, rfl, hrep4, R4, K4, hk4, hk4l⟩ | ⟨y, b, q4, rfl, hf⟩
  rotate_left
  · have ho2 : o = .error y := by
      rw [← HO.out, pChoice]
      simp only [HQ1.out, HQ2.out, markAt_of hx2, hm, cond_true, q4]
    have HF := toHid (HPE.out _ _ _ ho2 (faultAt.after HA3.out.ks.below hf))
    clear hP HC3 hf
    go_wp2_with fail
    exact ⟨rfl, HF.out⟩
  have hba4 : Below w4.heap.size w4 (w4.alloc (.cells #[.string kd4, .string nm4, .slice pa4 pn4 pc4, .slice la4 ln4 lc4, .slice ba4 bn4 bc4, .slice ea4 en4 ec4] 33)) := (Below.refl _ _).alloc (Nat.le_refl _) _
  have A4 := (HA3.out.go R4 K4).more hba4
  have hN4 : (w4.alloc (.cells #[.string kd4, .string nm4, .slice pa4 pn4 pc4, .slice la4 ln4 lc4, .slice ba4 bn4 bc4, .slice ea4 en4 ec4] 33)).heap[w4.heap.size]? = some (.cells #[.string kd4, .string nm4, .slice pa4 pn4 pc4, .slice la4 ln4 lc4, .slice ba4 bn4 bc4, .slice ea4 en4 ec4] 33) := heap_alloc_new w4 _
  have hs4 := K4.below.size
  have hB4 := (hba4.block w2.heap.size (by omega)).trans ((K4.block w2.heap.size (by omega) hlt3).trans HB3.out)
  have hL4 := (HL3.out.same (S' := (fun b => w.heap.size < b ∧ b ≠ w2.heap.size)) (K4.same (fun h => by have := h.1; omega)) (fun b hb _ => hb)).same (S' := (fun b => w.heap.size < b ∧ b ≠ w2.heap.size)) (same_below hba4) (fun b hb _ => hb)
  have hS4 := (HS3.out.same (S' := (fun b => w.heap.size < b ∧ b ≠ w2.heap.size)) (K4.same (fun h => by have := h.1; omega)) (fun b hb _ => hb)).same (S' := (fun b => w.heap.size < b ∧ b ≠ w2.heap.size)) (same_below hba4) (fun b hb _ => hb)
  have hE4 : RepSL (fun b => w.heap.size < b ∧ b ≠ w2.heap.size) (w4.alloc (.cells #[.string kd4, .string nm4, .slice pa4 pn4 pc4, .slice la4 ln4 lc4, .slice ba4 bn4 bc4, .slice ea4 en4 ec4] 33)) (some ⟨w4.heap.size, 0, none⟩) [s4] := repSL_one hN4 ⟨by omega, by omega⟩ (hrep4.same (same_below hba4) (fun b hb _ => ⟨by omega, by omega⟩))
  obtain ⟨s0, s1, s2, s3, s4', s5, sf⟩ := stmt_block hB4
  have sf5 := sf 5
  have sl := lt_of_heap hB4
  have A6 := A4.put (b := w2.heap.size) (o := 5) (v := .slice (some ⟨w4.heap.size, 0, none⟩) 1 1) (by omega)
  have hB6 := put_block (o := 5) (v := .slice (some ⟨w4.heap.size, 0, none⟩) 1 1) hB4 #[.string kIf, .string ⟨#[]⟩, .slice none 0 0, .slice la el.length lc, .slice ba ss.length bc, .slice (some ⟨w4.heap.size, 0, none⟩) 1 1] rfl
  have hL6 := hL4.same (S' := (fun b => w.heap.size < b ∧ b ≠ w2.heap.size)) (same_set (b := w2.heap.size) (o := 5) (v := .slice (some ⟨w4.heap.size, 0, none⟩) 1 1) (fun h => h.2 rfl)) (fun b hb _ => hb)
  have hS6 := hS4.same (S' := (fun b => w.heap.size < b ∧ b ≠ w2.heap.size)) (same_set (b := w2.heap.size) (o := 5) (v := .slice (some ⟨w4.heap.size, 0, none⟩) 1 1) (fun h => h.2 rfl)) (fun b hb _ => hb)
  have hE6 := hE4.same (S' := (fun b => w.heap.size < b ∧ b ≠ w2.heap.size)) (same_set (b := w2.heap.size) (o := 5) (v := .slice (some ⟨w4.heap.size, 0, none⟩) 1 1) (fun h => h.2 rfl)) (fun b hb _ => hb)
  have ho6 : o = .ok (mkS kIf ⟨#[]⟩ [] el ss [s4], k4) := by
    rw [← HO.out, pChoice]
    simp only [HQ1.out, HQ2.out, markAt_of hx2, hm, cond_true, q4]
  have hZ := (st_done (c0 := .string kIf) (c1 := .string ⟨#[]⟩) (c2 := .slice none 0 0) (c3 := .slice la el.length lc) (c4 := .slice ba ss.length bc) (c5 := .slice (some ⟨w4.heap.size, 0, none⟩) 1 1) A6 (mkRepS (kd := kIf) (nm := ⟨#[]⟩) (pl := []) (pc := 0) (lc := lc) (bc := bc) (ec := 1) (RepN.nil _ _ none) hL6 hS6 hE6) (fun b hb => hb.1))
  have HZ := toHid hZ
  obtain ⟨u0, u1, u2, u3, u4, u5, uf⟩ := stmt_block A6.b4
  have uf0 := uf 0
  have uf1 := uf 1
  have uf2 := uf 2
  have uf3 := uf 3
  have uf4 := uf 4
  have uf5 := uf 5
  have ul := lt_of_heap A6.b4
  obtain ⟨v0, v1, v2, v3, v4, v5, _⟩ := stmt_block hB6
  have HO6 := toHid ho6
  clear hP HC3 hba4 A4 hN4 hB4 hL4 hS4 hE4 sf A6 hB6 hL6 hS6 hE6 hrep4 R4 K4 q4 uf ho6 hZ
  go_wp2_with fail
  obtain ⟨z1, z2, z3, z4⟩ := HZ.out
  refine bodyPost_ret (results_stmt _ 2 rfl _ _ w.heap.size _ _ _ _ _ _ rfl z1) rfl ?_
  rw [HO6.out]
  exact ⟨_, _, _, _, _, _, rfl, z2, z3, z4, by omega, hk4l⟩
  | false =>
  rw [hm, if_neg (by decide)] at R3
  have A3 := HA2.out.go R3 K3
  have HC3 := toHid (passMark_any A3.rd hx2 hl kElse)
  have HA3 := toHid A3
  clear R3 K3 A3
  go_wp2_with fail
  refine HC3.out.mono ?_
  rintro ev w4 ⟨rfl, R4, K4⟩
  have hs4 := K4.below.size
  have hB4 := (K4.block w2.heap.size (by omega) hlt3).trans HB3.out
  have hL4 := HL3.out.same (S' := (fun b => w.heap.size < b ∧ b ≠ w2.heap.size)) (K4.same (fun h => by have := h.1; omega)) (fun b hb _ => hb)
  have hS4 := HS3.out.same (S' := (fun b => w.heap.size < b ∧ b ≠ w2.heap.size)) (K4.same (fun h => by have := h.1; omega)) (fun b hb _ => hb)
  have hlt4 := lt_of_heap hB4
  cases hm2 : markB x2 [kElse] with
  | true =>
  rw [hm2, if_pos rfl] at R4
  have hk3 := T.ok.hen.next hx2 hm2
  have A4 := HA3.out.go R4 K4
  have HC4 := toHid (HH2.out (k2 + 1) (by omega) hk3 _ A4.rd (HE.out.keeps A4.ks) (HX.out.keeps A4.ks))
  have HA4 := toHid A4
  have HB4 := toHid hB4
  have HL4 := toHid hL4
  have HS4 := toHid hS4
  clear R4 K4 A4 hB4 hL4 hS4 HC3
  go_wp2_with fail
  refine HC4.out.mono ?_
  intro ev w5 hP
  rcases hP.parts with ⟨es, k5, ea, ec, q5, rfl, hE5, R5, K5, hk5, hk5l⟩ | ⟨y, b, q5, rfl, hf⟩
  rotate_left
  · have ho2 : o = .error y := by
      rw [← HO.out, pChoice]
      simp only [HQ1.out, HQ2.out, markAt_of hx2, hm, hm2, cond_true, cond_false, q5]
    have HF := toHid (HPE.out _ _ _ ho2 (faultAt.after HA4.out.ks.below hf))
    clear hP HC4 hf
    go_wp2_with fail
    exact ⟨rfl, HF.out⟩
  have A5 := HA4.out.go R5 K5
  have hs5 := K5.below.size
  have hB5 := (K5.block w2.heap.size (by omega) hlt4).trans HB4.out
  have hL5 := HL4.out.same (S' := (fun b => w.heap.size < b ∧ b ≠ w2.heap.size)) (K5.same (fun h => by have := h.1; omega)) (fun b hb _ => hb)
  have hS5 := HS4.out.same (S' := (fun b => w.heap.size < b ∧ b ≠ w2.heap.size)) (K5.same (fun h => by have := h.1; omega)) (fun b hb _ => hb)
  obtain ⟨s0, s1, s2, s3, s4', s5, sf⟩ := stmt_block hB5
  have sf5 := sf 5
  have sl := lt_of_heap hB5
  have A6 := A5.put (b := w2.heap.size) (o := 5) (v := .slice ea es.length ec) (by omega)
  have hB6 := put_block (o := 5) (v := .slice ea es.length ec) hB5 #[.string kIf, .string ⟨#[]⟩, .slice none 0 0, .slice la el.length lc, .slice ba ss.length bc, .slice ea es.length ec] rfl
  have hL6 := hL5.same (S' := (fun b => w.heap.size < b ∧ b ≠ w2.heap.size)) (same_set (b := w2.heap.size) (o := 5) (v := .slice ea es.length ec) (fun h => h.2 rfl)) (fun b hb _ => hb)
  have hS6 := hS5.same (S' := (fun b => w.heap.size < b ∧ b ≠ w2.heap.size)) (same_set (b := w2.heap.size) (o := 5) (v := .slice ea es.length ec) (fun h => h.2 rfl)) (fun b hb _ => hb)
  have hE6 : RepSL (fun b => w.heap.size < b ∧ b ≠ w2.heap.size) (w5.setCell ⟨w2.heap.size, 5, none⟩ (.slice ea es.length ec)) ea es := hE5.same (same_set (by show ¬ (_ ≤ w2.heap.size); omega)) (fun b hb _ => ⟨by omega, by omega⟩)
  have ho6 : o = .ok (mkS kIf ⟨#[]⟩ [] el ss es, k5) := by
    rw [← HO.out, pChoice]
    simp only [HQ1.out, HQ2.out, markAt_of hx2, hm, hm2, cond_true, cond_false, q5]
  have hZ := (st_done (c0 := .string kIf) (c1 := .string ⟨#[]⟩) (c2 := .slice none 0 0) (c3 := .slice la el.length lc) (c4 := .slice ba ss.length bc) (c5 := .slice ea es.length ec) A6 (mkRepS (kd := kIf) (nm := ⟨#[]⟩) (pl := []) (pc := 0) (lc := lc) (bc := bc) (ec := ec) (RepN.nil _ _ none) hL6 hS6 hE6) (fun b hb => hb.1))
  have HZ := toHid hZ
  obtain ⟨u0, u1, u2, u3, u4, u5, uf⟩ := stmt_block A6.b4
  have uf0 := uf 0
  have uf1 := uf 1
  have uf2 := uf 2
  have uf3 := uf 3
  have uf4 := uf 4
  have uf5 := uf 5
  have ul := lt_of_heap A6.b4
  obtain ⟨v0, v1, v2, v3, v4, v5, _⟩ := stmt_block hB6
  have HO6 := toHid ho6
  clear hP HC4 A5 hB5 hL5 hS5 hE5 sf A6 hB6 hL6 hS6 hE6 R5 K5 q5 uf ho6 hZ
  go_wp2_with fail
  obtain ⟨z1, z2, z3, z4⟩ := HZ.out
  refine bodyPost_ret (results_stmt _ 2 rfl _ _ w.heap.size _ _ _ _ _ _ rfl z1) rfl ?_
  rw [HO6.out]
  exact ⟨_, _, _, _, _, _, rfl, z2, z3, z4, by omega, hk5l⟩
  | false =>
  rw [hm2, if_neg (by decide)] at R4
  have A6 := HA3.out.go R4 K4
  have ho6 : o = .ok (mkS kIf ⟨#[]⟩ [] el ss [], k2) := by
    rw [← HO.out, pChoice]
    simp only [HQ1.out, HQ2.out, markAt_of hx2, hm, hm2, cond_false]
  have hZ := (st_done (c0 := .string kIf) (c1 := .string ⟨#[]⟩) (c2 := .slice none 0 0) (c3 := .slice la el.length lc) (c4 := .slice ba ss.length bc) (c5 := .slice none 0 0) A6 (mkRepS (kd := kIf) (nm := ⟨#[]⟩) (pl := []) (pc := 0) (lc := lc) (bc := bc) (es := []) (ec := 0) (RepN.nil _ _ none) hL4 hS4 (RepSL.nil _ _ none)) (fun b hb => hb.1))
  have HZ := toHid hZ
  obtain ⟨u0, u1, u2, u3, u4, u5, uf⟩ := stmt_block A6.b4
  have uf0 := uf 0
  have uf1 := uf 1
  have uf2 := uf 2
  have uf3 := uf 3
  have uf4 := uf 4
  have uf5 := uf 5
  have ul := lt_of_heap A6.b4
  obtain ⟨v0, v1, v2, v3, v4, v5, _⟩ := stmt_block hB4
  have HO6 := toHid ho6
  clear HC3 A6 hB4 hL4 hS4 R4 K4 uf ho6 hZ
  go_wp2_with fail
  obtain ⟨z1, z2, z3, z4⟩ := HZ.out
  refine bodyPost_ret (results_stmt _ 2 rfl _ _ w.heap.size _ _ _ _ _ _ rfl z1) rfl ?_
  rw [HO6.out]
  exact ⟨_, _, _, _, _, _, rfl, z2, z3, z4, by omega, hk2l⟩
end Go.Proofs.YtpidanllncneaaaGreatDoor

/- Package tree: statement (written by tools/tree/stmt.py). -/
namespace Go.Proofs.YtpidanllncneaaaGreatDoor
open Go.RowKit

def kWhile : ByteArray := ⟨#[119, 104, 105, 108, 101]⟩
def pWhile (one blk : Nat → Out (List (DataW Unit))) (k : Nat) : Out (DataW Unit) := match one k with
  | .error y => .error y
  | .ok (el, k1) => match blk k1 with
    | .error y => .error y
    | .ok (ss, k2) => .ok (mkS kWhile ⟨#[]⟩ [] el ss [], k2)
def pStatement (l : List (ByteArray × ByteArray × Nat)) (choice whil each func att line : Nat → Out (DataW Unit)) (k : Nat) : Out (DataW Unit) :=
  bif markAt l k [kIf] then choice (k + 1) else bif markAt l k [kWhile] then whil (k + 1) else bif markAt l k [kFor] then each (k + 1) else bif markAt l k [kDef] then func (k + 1) else bif markAt l k [kTry] then att (k + 1) else (match line k with
    | .error y => .error y
    | .ok (s, k1) => bif isKind l k1 [110, 101, 119, 108, 105, 110, 101] then .ok (s, k1 + 1) else .error (k1, false))

set_option maxHeartbeats 8000000 in
set_option maxRecDepth 100000 in
theorem statement_any {p g cap : Nat} {rk : Value} {l : List (ByteArray × ByteArray × Nat)} {k bl dp : Nat} {a0 a1 : Addr} (T : TokS l) (hk : k < l.length) (one blk : Nat → Out (List (DataW Unit))) (choice each func att line : Nat → Out (DataW Unit))
    (h1 : ∀ k', k < k' → k' < l.length → ReadsL 36 #[.pointer (some ⟨p, 0, none⟩)] p g cap rk l k' bl dp a0 a1 (one k'))
    (h2 : ∀ k', k < k' → k' < l.length → ReadsSL 37 #[.pointer (some ⟨p, 0, none⟩)] p g cap rk l k' bl dp a0 a1 (blk k'))
    (hC : ∀ k', k < k' → k' < l.length → ReadsS 35 #[.pointer (some ⟨p, 0, none⟩)] p g cap rk l k' bl dp a0 a1 (choice k'))
    (hE : ∀ k', k < k' → k' < l.length → ReadsS 38 #[.pointer (some ⟨p, 0, none⟩)] p g cap rk l k' bl dp a0 a1 (each k'))
    (hF : ∀ k', k < k' → k' < l.length → ReadsS 39 #[.pointer (some ⟨p, 0, none⟩)] p g cap rk l k' bl dp a0 a1 (func k'))
    (hA : ∀ k', k < k' → k' < l.length → ReadsS 40 #[.pointer (some ⟨p, 0, none⟩)] p g cap rk l k' bl dp a0 a1 (att k'))
    (hL : ReadsS 41 #[.pointer (some ⟨p, 0, none⟩)] p g cap rk l k bl dp a0 a1 (line k)) : ReadsS 21 #[.pointer (some ⟨p, 0, none⟩)] p g cap rk l k bl dp a0 a1 (pStatement l choice (pWhile one blk) each func att line k) := by
  intro w R E X
  have hl := T.ok.hl
  have A0 := st_start R
  have HE := toHid E
  have HX := toHid X
  obtain ⟨o, ho⟩ : ∃ o, pStatement l choice (pWhile one blk) each func att line k = o := ⟨_, rfl⟩
  rw [ho]
  have HO := toHid ho
  have HPE : Hid (∀ y ev w', o = .error y → faultAt l p a0 a1 w y ev w' → PostS (fun b => w.heap.size ≤ b) p g cap rk l k bl dp a0 a1 w o ev w') := by
    rintro y ev w' rfl h
    exact h
  have hpl := A0.pl
  have hgl := A0.gl
  obtain ⟨x, hx⟩ : ∃ x, l[k]? = some x := ⟨l[k], by simp [hk]⟩
  have hs0 : (w.alloc (.cells #[.string ⟨#[]⟩, .string ⟨#[]⟩, .slice none 0 0, .slice none 0 0, .slice none 0 0, .slice none 0 0] 33)).heap.size = w.heap.size + 1 := by simp
  have HA0 := toHid A0
  have HP0 := toHid (passMark_any A0.rd hx hl kIf)
  have HH1 := toHid h1
  have HH2 := toHid h2
  have HHC := toHid hC
  have HHE := toHid hE
  have HHF := toHid hF
  have HHA := toHid hA
  have HHL := toHid hL
  have HMX := toHid (fun t => markAt_of hx [t])
  have HKK : Hid (∀ ts, markB x ts = true → k + 1 < l.length) := fun ts h => T.ok.hen.next hx h
  have HHX := toHid hx
  clear R E X A0 ho h1 h2 hC hE hF hA hL hx
  go_enter Tryz.func21, Tryz.ntmps21
  go_wp2_with fail
  refine HP0.out.mono ?_
  rintro ev w1 ⟨rfl, R0, K0⟩
  have hz0 := K0.below.size
  rw [hs0] at hz0
  cases hm0 : markB x [kIf] with
  | true =>
  rw [hm0, if_pos rfl] at R0
  have hk1 := HKK.out _ hm0
  have A' := HA0.out.go R0 K0
  have HA' := toHid A'
  have HC := toHid (HHC.out (k + 1) (by omega) hk1 _ A'.rd (HE.out.keeps A'.ks) (HX.out.keeps A'.ks))
  clear R0 K0 A' HP0
  go_wp2_with fail
  refine HC.out.mono ?_
  intro ev w9 hP
  rcases hP.parts with ⟨s4, k4, kd4, nm4, pa4, pn4, pc4, la4, ln4, lc4, ba4, bn4, bc4, ea4, en4, ec4, q4, rfl, hrep4, R4, K4, hk4, hk4l⟩ | ⟨y, b, q4, rfl, hf⟩
  rotate_left
  · have ho2 : o = .error y := by
      rw [← HO.out, pStatement]
      rw [HMX.out, hm0, cond_true, q4]
    have HF := toHid (HPE.out _ _ _ ho2 (faultAt.after HA'.out.ks.below hf))
    clear hP HC hf
    go_wp2_with fail
    exact ⟨rfl, HF.out⟩
  have A9 := HA'.out.go R4 K4
  have ho6 : o = .ok (s4, k4) := by
    rw [← HO.out, pStatement]
    rw [HMX.out, hm0, cond_true, q4]
  have hZ := st_done (c0 := .string kd4) (c1 := .string nm4) (c2 := .slice pa4 pn4 pc4) (c3 := .slice la4 ln4 lc4) (c4 := .slice ba4 bn4 bc4) (c5 := .slice ea4 en4 ec4) A9 (hrep4) (fun b hb => by omega)
  have HZ := toHid hZ
  obtain ⟨u0, u1, u2, u3, u4, u5, uf⟩ := stmt_block A9.b4
  have uf0 := uf 0
  have uf1 := uf 1
  have uf2 := uf 2
  have uf3 := uf 3
  have uf4 := uf 4
  have uf5 := uf 5
  have ul := lt_of_heap A9.b4
  have HO6 := toHid ho6
  clear hP HC A9 hrep4 R4 K4 q4 uf ho6 hZ
  go_wp2_with fail
  obtain ⟨z1, z2, z3, z4⟩ := HZ.out
  refine bodyPost_ret (results_stmt _ 2 rfl _ _ w.heap.size _ _ _ _ _ _ rfl z1) rfl ?_
  rw [HO6.out]
  exact ⟨_, _, _, _, _, _, rfl, z2, z3, z4, by omega, hk4l⟩
  | false =>
  rw [hm0, if_neg (by decide)] at R0
  have A1 := HA0.out.go R0 K0
  have HA1 := toHid A1
  have HP1 := toHid (passMark_any A1.rd HHX.out hl kWhile)
  clear R0 K0 A1 HP0
  go_wp2_with fail
  refine HP1.out.mono ?_
  rintro ev w2 ⟨rfl, R1, K1⟩
  have hz1 := K1.below.size
  cases hm1 : markB x [kWhile] with
  | true =>
  rw [hm1, if_pos rfl] at R1
  have hk1 := HKK.out _ hm1
  have A' := HA1.out.go R1 K1
  have HA' := toHid A'
  have HC := toHid (HH1.out (k + 1) (by omega) hk1 _ A'.rd (HE.out.keeps A'.ks) (HX.out.keeps A'.ks))
  clear R1 K1 A' HP1
  go_wp2_with fail
  refine HC.out.mono ?_
  intro ev w8 hP
  rcases hP.parts with ⟨el, k3, la, lc, q3, rfl, hL3, R3, K3, hk3, hk3l⟩ | ⟨y, b, q3, rfl, hf⟩
  rotate_left
  · have ho2 : o = .error y := by
      rw [← HO.out, pStatement]
      rw [HMX.out, hm0, cond_false, HMX.out, hm1, cond_true, pWhile, q3]
    have HF := toHid (HPE.out _ _ _ ho2 (faultAt.after HA'.out.ks.below hf))
    clear hP HC hf
    go_wp2_with fail
    exact ⟨rfl, HF.out⟩
  have A8 := HA'.out.go R3 K3
  have hs8 := K3.below.size
  have HC8 := toHid (HH2.out k3 (by omega) hk3l _ A8.rd (HE.out.keeps A8.ks) (HX.out.keeps A8.ks))
  have HA8 := toHid A8
  have HL3 := toHid hL3
  have HQ3 := toHid q3
  clear hP HC R3 K3 A8 hL3 q3
  go_wp2_with fail
  refine HC8.out.mono ?_
  intro ev w9 hP
  rcases hP.parts with ⟨ss, k4, ba, bc, q4, rfl, hS4, R4, K4, hk4, hk4l⟩ | ⟨y, b, q4, rfl, hf⟩
  rotate_left
  · have ho2 : o = .error y := by
      rw [← HO.out, pStatement]
      rw [HMX.out, hm0, cond_false, HMX.out, hm1, cond_true, pWhile, HQ3.out]
      simp only [q4]
    have HF := toHid (HPE.out _ _ _ ho2 (faultAt.after HA8.out.ks.below hf))
    clear hP HC8 hf
    go_wp2_with fail
    exact ⟨rfl, HF.out⟩
  have A9 := HA8.out.go R4 K4
  have hL9 : RepL (fun b => w.heap.size < b) w9 la el := HL3.out.same (K4.same (by show ¬ (_ ≤ p); omega)) (fun b hb _ => by show w.heap.size < b; omega)
  have hS9 : RepSL (fun b => w.heap.size < b) w9 ba ss := hS4.same (fun _ _ _ => rfl) (fun b hb _ => by show w.heap.size < b; omega)
  have ho6 : o = .ok (mkS kWhile ⟨#[]⟩ [] el ss [], k4) := by
    rw [← HO.out, pStatement]
    rw [HMX.out, hm0, cond_false, HMX.out, hm1, cond_true, pWhile, HQ3.out]
    simp only [q4]
  have hZ := st_done (c0 := .string kWhile) (c1 := .string ⟨#[]⟩) (c2 := .slice none 0 0) (c3 := .slice la el.length lc) (c4 := .slice ba ss.length bc) (c5 := .slice none 0 0) A9 (mkRepS (kd := kWhile) (nm := ⟨#[]⟩) (pl := []) (es := []) (pc := 0) (lc := lc) (bc := bc) (ec := 0) (RepN.nil _ _ none) hL9 hS9 (RepSL.nil _ _ none)) (fun b hb => hb)
  have HZ := toHid hZ
  obtain ⟨u0, u1, u2, u3, u4, u5, uf⟩ := stmt_block A9.b4
  have uf0 := uf 0
  have uf1 := uf 1
  have uf2 := uf 2
  have uf3 := uf 3
  have uf4 := uf 4
  have uf5 := uf 5
  have ul := lt_of_heap A9.b4
  have HO6 := toHid ho6
  clear hP HC8 A9 hL9 hS9 hS4 R4 K4 q4 uf ho6 hZ
  go_wp2_with fail
  obtain ⟨z1, z2, z3, z4⟩ := HZ.out
  refine bodyPost_ret (results_stmt _ 2 rfl _ _ w.heap.size _ _ _ _ _ _ rfl z1) rfl ?_
  rw [HO6.out]
  exact ⟨_, _, _, _, _, _, rfl, z2, z3, z4, by omega, hk4l⟩
  | false =>
  rw [hm1, if_neg (by decide)] at R1
  have A2 := HA1.out.go R1 K1
  have HA2 := toHid A2
  have HP2 := toHid (passMark_any A2.rd HHX.out hl kFor)
  clear R1 K1 A2 HP1
  go_wp2_with fail
  refine HP2.out.mono ?_
  rintro ev w3 ⟨rfl, R2, K2⟩
  have hz2 := K2.below.size
  cases hm2 : markB x [kFor] with
  | true =>
  rw [hm2, if_pos rfl] at R2
  have hk1 := HKK.out _ hm2
  have A' := HA2.out.go R2 K2
  have HA' := toHid A'
  have HC := toHid (HHE.out (k + 1) (by omega) hk1 _ A'.rd (HE.out.keeps A'.ks) (HX.out.keeps A'.ks))
  clear R2 K2 A' HP2
  go_wp2_with fail
  refine HC.out.mono ?_
  intro ev w9 hP
  rcases hP.parts with ⟨s4, k4, kd4, nm4, pa4, pn4, pc4, la4, ln4, lc4, ba4, bn4, bc4, ea4, en4, ec4, q4, rfl, hrep4, R4, K4, hk4, hk4l⟩ | ⟨y, b, q4, rfl, hf⟩
  rotate_left
  · have ho2 : o = .error y := by
      rw [← HO.out, pStatement]
      rw [HMX.out, hm0, cond_false, HMX.out, hm1, cond_false, HMX.out, hm2, cond_true, q4]
    have HF := toHid (HPE.out _ _ _ ho2 (faultAt.after HA'.out.ks.below hf))
    clear hP HC hf
    go_wp2_with fail
    exact ⟨rfl, HF.out⟩
  have A9 := HA'.out.go R4 K4
  have ho6 : o = .ok (s4, k4) := by
    rw [← HO.out, pStatement]
    rw [HMX.out, hm0, cond_false, HMX.out, hm1, cond_false, HMX.out, hm2, cond_true, q4]
  have hZ := st_done (c0 := .string kd4) (c1 := .string nm4) (c2 := .slice pa4 pn4 pc4) (c3 := .slice la4 ln4 lc4) (c4 := .slice ba4 bn4 bc4) (c5 := .slice ea4 en4 ec4) A9 (hrep4) (fun b hb => by omega)
  have HZ := toHid hZ
  obtain ⟨u0, u1, u2, u3, u4, u5, uf⟩ := stmt_block A9.b4
  have uf0 := uf 0
  have uf1 := uf 1
  have uf2 := uf 2
  have uf3 := uf 3
  have uf4 := uf 4
  have uf5 := uf 5
  have ul := lt_of_heap A9.b4
  have HO6 := toHid ho6
  clear hP HC A9 hrep4 R4 K4 q4 uf ho6 hZ
  go_wp2_with fail
  obtain ⟨z1, z2, z3, z4⟩ := HZ.out
  refine bodyPost_ret (results_stmt _ 2 rfl _ _ w.heap.size _ _ _ _ _ _ rfl z1) rfl ?_
  rw [HO6.out]
  exact ⟨_, _, _, _, _, _, rfl, z2, z3, z4, by omega, hk4l⟩
  | false =>
  rw [hm2, if_neg (by decide)] at R2
  have A3 := HA2.out.go R2 K2
  have HA3 := toHid A3
  have HP3 := toHid (passMark_any A3.rd HHX.out hl kDef)
  clear R2 K2 A3 HP2
  go_wp2_with fail
  refine HP3.out.mono ?_
  rintro ev w4 ⟨rfl, R3, K3⟩
  have hz3 := K3.below.size
  cases hm3 : markB x [kDef] with
  | true =>
  rw [hm3, if_pos rfl] at R3
  have hk1 := HKK.out _ hm3
  have A' := HA3.out.go R3 K3
  have HA' := toHid A'
  have HC := toHid (HHF.out (k + 1) (by omega) hk1 _ A'.rd (HE.out.keeps A'.ks) (HX.out.keeps A'.ks))
  clear R3 K3 A' HP3
  go_wp2_with fail
  refine HC.out.mono ?_
  intro ev w9 hP
  rcases hP.parts with ⟨s4, k4, kd4, nm4, pa4, pn4, pc4, la4, ln4, lc4, ba4, bn4, bc4, ea4, en4, ec4, q4, rfl, hrep4, R4, K4, hk4, hk4l⟩ | ⟨y, b, q4, rfl, hf⟩
  rotate_left
  · have ho2 : o = .error y := by
      rw [← HO.out, pStatement]
      rw [HMX.out, hm0, cond_false, HMX.out, hm1, cond_false, HMX.out, hm2, cond_false, HMX.out, hm3, cond_true, q4]
    have HF := toHid (HPE.out _ _ _ ho2 (faultAt.after HA'.out.ks.below hf))
    clear hP HC hf
    go_wp2_with fail
    exact ⟨rfl, HF.out⟩
  have A9 := HA'.out.go R4 K4
  have ho6 : o = .ok (s4, k4) := by
    rw [← HO.out, pStatement]
    rw [HMX.out, hm0, cond_false, HMX.out, hm1, cond_false, HMX.out, hm2, cond_false, HMX.out, hm3, cond_true, q4]
  have hZ := st_done (c0 := .string kd4) (c1 := .string nm4) (c2 := .slice pa4 pn4 pc4) (c3 := .slice la4 ln4 lc4) (c4 := .slice ba4 bn4 bc4) (c5 := .slice ea4 en4 ec4) A9 (hrep4) (fun b hb => by omega)
  have HZ := toHid hZ
  obtain ⟨u0, u1, u2, u3, u4, u5, uf⟩ := stmt_block A9.b4
  have uf0 := uf 0
  have uf1 := uf 1
  have uf2 := uf 2
  have uf3 := uf 3
  have uf4 := uf 4
  have uf5 := uf 5
  have ul := lt_of_heap A9.b4
  have HO6 := toHid ho6
  clear hP HC A9 hrep4 R4 K4 q4 uf ho6 hZ
  go_wp2_with fail
  obtain ⟨z1, z2, z3, z4⟩ := HZ.out
  refine bodyPost_ret (results_stmt _ 2 rfl _ _ w.heap.size _ _ _ _ _ _ rfl z1) rfl ?_
  rw [HO6.out]
  exact ⟨_, _, _, _, _, _, rfl, z2, z3, z4, by omega, hk4l⟩
  | false =>
  rw [hm3, if_neg (by decide)] at R3
  have A4 := HA3.out.go R3 K3
  have HA4 := toHid A4
  have HP4 := toHid (passMark_any A4.rd HHX.out hl kTry)
  clear R3 K3 A4 HP3
  go_wp2_with fail
  refine HP4.out.mono ?_
  rintro ev w5 ⟨rfl, R4, K4⟩
  have hz4 := K4.below.size
  cases hm4 : markB x [kTry] with
  | true =>
  rw [hm4, if_pos rfl] at R4
  have hk1 := HKK.out _ hm4
  have A' := HA4.out.go R4 K4
  have HA' := toHid A'
  have HC := toHid (HHA.out (k + 1) (by omega) hk1 _ A'.rd (HE.out.keeps A'.ks) (HX.out.keeps A'.ks))
  clear R4 K4 A' HP4
  go_wp2_with fail
  refine HC.out.mono ?_
  intro ev w9 hP
  rcases hP.parts with ⟨s4, k4, kd4, nm4, pa4, pn4, pc4, la4, ln4, lc4, ba4, bn4, bc4, ea4, en4, ec4, q4, rfl, hrep4, R4, K4, hk4, hk4l⟩ | ⟨y, b, q4, rfl, hf⟩
  rotate_left
  · have ho2 : o = .error y := by
      rw [← HO.out, pStatement]
      rw [HMX.out, hm0, cond_false, HMX.out, hm1, cond_false, HMX.out, hm2, cond_false, HMX.out, hm3, cond_false, HMX.out, hm4, cond_true, q4]
    have HF := toHid (HPE.out _ _ _ ho2 (faultAt.after HA'.out.ks.below hf))
    clear hP HC hf
    go_wp2_with fail
    exact ⟨rfl, HF.out⟩
  have A9 := HA'.out.go R4 K4
  have ho6 : o = .ok (s4, k4) := by
    rw [← HO.out, pStatement]
    rw [HMX.out, hm0, cond_false, HMX.out, hm1, cond_false, HMX.out, hm2, cond_false, HMX.out, hm3, cond_false, HMX.out, hm4, cond_true, q4]
  have hZ := st_done (c0 := .string kd4) (c1 := .string nm4) (c2 := .slice pa4 pn4 pc4) (c3 := .slice la4 ln4 lc4) (c4 := .slice ba4 bn4 bc4) (c5 := .slice ea4 en4 ec4) A9 (hrep4) (fun b hb => by omega)
  have HZ := toHid hZ
  obtain ⟨u0, u1, u2, u3, u4, u5, uf⟩ := stmt_block A9.b4
  have uf0 := uf 0
  have uf1 := uf 1
  have uf2 := uf 2
  have uf3 := uf 3
  have uf4 := uf 4
  have uf5 := uf 5
  have ul := lt_of_heap A9.b4
  have HO6 := toHid ho6
  clear hP HC A9 hrep4 R4 K4 q4 uf ho6 hZ
  go_wp2_with fail
  obtain ⟨z1, z2, z3, z4⟩ := HZ.out
  refine bodyPost_ret (results_stmt _ 2 rfl _ _ w.heap.size _ _ _ _ _ _ rfl z1) rfl ?_
  rw [HO6.out]
  exact ⟨_, _, _, _, _, _, rfl, z2, z3, z4, by omega, hk4l⟩
  | false =>
  rw [hm4, if_neg (by decide)] at R4
  have A5 := HA4.out.go R4 K4
  have HA5 := toHid A5
  have HC := toHid (HHL.out _ A5.rd (HE.out.keeps A5.ks) (HX.out.keeps A5.ks))
  clear R4 K4 A5 HP4
  go_wp2_with fail
  refine HC.out.mono ?_
  intro ev w8 hP
  rcases hP.parts with ⟨s4, k4, kd4, nm4, pa4, pn4, pc4, la4, ln4, lc4, ba4, bn4, bc4, ea4, en4, ec4, q4, rfl, hrep4, R4, K4, hk4, hk4l⟩ | ⟨y, b, q4, rfl, hf⟩
  rotate_left
  · have ho2 : o = .error y := by
      rw [← HO.out, pStatement]
      rw [HMX.out, hm0, cond_false, HMX.out, hm1, cond_false, HMX.out, hm2, cond_false, HMX.out, hm3, cond_false, HMX.out, hm4, cond_false, q4]
    have HF := toHid (HPE.out _ _ _ ho2 (faultAt.after HA5.out.ks.below hf))
    clear hP HC hf
    go_wp2_with fail
    exact ⟨rfl, HF.out⟩
  obtain ⟨x4, hx4⟩ : ∃ x, l[k4]? = some x := ⟨l[k4], by simp [hk4l]⟩
  have hba8 : Below w8.heap.size w8 (w8.alloc (.cells #[.string kd4, .string nm4, .slice pa4 pn4 pc4, .slice la4 ln4 lc4, .slice ba4 bn4 bc4, .slice ea4 en4 ec4] 33)) := (Below.refl _ _).alloc (Nat.le_refl _) _
  have hs8 := K4.below.size
  have A8 := (HA5.out.go R4 K4).more hba8
  have hB8 : (w8.alloc (.cells #[.string kd4, .string nm4, .slice pa4 pn4 pc4, .slice la4 ln4 lc4, .slice ba4 bn4 bc4, .slice ea4 en4 ec4] 33)).heap[w8.heap.size]? = some (.cells #[.string kd4, .string nm4, .slice pa4 pn4 pc4, .slice la4 ln4 lc4, .slice ba4 bn4 bc4, .slice ea4 en4 ec4] 33) := heap_alloc_new w8 _
  have hrep8 := hrep4.same (S' := fun b => w.heap.size < b) (same_below hba8) (fun b hb _ => by show w.heap.size < b; omega)
  have HA8 := toHid A8
  have HB8 := toHid hB8
  have HRP := toHid hrep8
  have HQ4 := toHid q4
  cases hn : isKind l k4 [110, 101, 119, 108, 105, 110, 101] with
  | false =>
  have hn' := (isKind_of hx4 [110, 101, 119, 108, 105, 110, 101]).symm.trans hn
  have HC8 := toHid (need_fail A8.rd (HE.out.keeps A8.ks) hx4 ⟨#[110, 101, 119, 108, 105, 110, 101]⟩ (by rw [bytesNL]; exact hn'))
  clear hP HC R4 K4 A8 hrep4 q4 hba8 hB8 hrep8
  go_wp2_with fail
  refine HC8.out.mono ?_
  rintro ev w9 ⟨t, g1, b, rfl, g2⟩
  have ho2 : o = .error (k4, false) := by
    rw [← HO.out, pStatement]
    rw [HMX.out, hm0, cond_false, HMX.out, hm1, cond_false, HMX.out, hm2, cond_false, HMX.out, hm3, cond_false, HMX.out, hm4, cond_false, HQ4.out]
    simp only [hn, cond_false]
  have HF := toHid (HPE.out _ _ _ ho2 (faultAt.after HA8.out.ks.below ⟨t, g1, b, rfl, g2⟩))
  clear g1 g2 HC8
  go_wp2_with fail
  exact ⟨rfl, HF.out⟩
  | true =>
  have hn' := (isKind_of hx4 [110, 101, 119, 108, 105, 110, 101]).symm.trans hn
  have hk5 := T.next hn (by decide)
  have HC8 := toHid (need_any A8.rd hx4 hl ⟨#[110, 101, 119, 108, 105, 110, 101]⟩ (by rw [bytesNL]; exact hn'))
  clear hP HC R4 K4 A8 hrep4 q4 hba8 hB8 hrep8
  go_wp2_with fail
  refine HC8.out.mono ?_
  rintro ev w9 ⟨rfl, R9, K9⟩
  have A9 := HA8.out.go R9 K9
  have hrep9 := HRP.out.same (S' := fun b => w.heap.size < b) (K9.same (by show ¬ (_ < p); omega)) (fun b hb _ => hb)
  have hB9 := (K9.block w8.heap.size (by omega) (lt_of_heap HB8.out)).trans HB8.out
  obtain ⟨v0, v1, v2, v3, v4, v5, _⟩ := stmt_block hB9
  have vl := lt_of_heap hB9
  have ho6 : o = .ok (s4, k4 + 1) := by
    rw [← HO.out, pStatement]
    rw [HMX.out, hm0, cond_false, HMX.out, hm1, cond_false, HMX.out, hm2, cond_false, HMX.out, hm3, cond_false, HMX.out, hm4, cond_false, HQ4.out]
    simp only [hn, cond_true]
  have hZ := st_done (c0 := .string kd4) (c1 := .string nm4) (c2 := .slice pa4 pn4 pc4) (c3 := .slice la4 ln4 lc4) (c4 := .slice ba4 bn4 bc4) (c5 := .slice ea4 en4 ec4) A9 (hrep9) (fun b hb => hb)
  have HZ := toHid hZ
  obtain ⟨u0, u1, u2, u3, u4, u5, uf⟩ := stmt_block A9.b4
  have uf0 := uf 0
  have uf1 := uf 1
  have uf2 := uf 2
  have uf3 := uf 3
  have uf4 := uf 4
  have uf5 := uf 5
  have ul := lt_of_heap A9.b4
  have HO6 := toHid ho6
  clear HC8 A9 hrep9 R9 K9 hB9 uf ho6 hZ
  go_wp2_with fail
  obtain ⟨z1, z2, z3, z4⟩ := HZ.out
  refine bodyPost_ret (results_stmt _ 2 rfl _ _ w.heap.size _ _ _ _ _ _ rfl z1) rfl ?_
  rw [HO6.out]
  exact ⟨_, _, _, _, _, _, rfl, z2, z3, z4, by omega, hk5⟩
end Go.Proofs.YtpidanllncneaaaGreatDoor
