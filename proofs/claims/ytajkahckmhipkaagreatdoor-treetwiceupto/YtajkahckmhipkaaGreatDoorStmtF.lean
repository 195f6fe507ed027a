/- Package tree: choice (written by tools/tree/choice.py). -/
import Derived.Test.YtajkahckmhipkaaGreatDoorWrtQToStmtM
namespace Go.Proofs.YtajkahckmhipkaaGreatDoor
open Go.RowKit

def kIf : ByteArray := ⟨#[105, 102]⟩
def kElif : ByteArray := ⟨#[101, 108, 105, 102]⟩
def kElse : ByteArray := ⟨#[101, 108, 115, 101]⟩
def pChoice (l : List (ByteArray × ByteArray × Nat)) (one blk : Nat → Out (List (DataW Unit))) : Nat → Nat → Out (DataW Unit)
  | 0, k => .error (k, false)
  | f + 1, k => match one k with
    | .error y => .error y
    | .ok (el, k1) => match blk k1 with
      | .error y => .error y
      | .ok (ss, k2) => bif markAt l k2 [kElif] then (match pChoice l one blk f (k2 + 1) with
          | .error y => .error y
          | .ok (s, k3) => .ok (mkS kIf ⟨#[]⟩ [] el ss [s], k3)) else bif markAt l k2 [kElse] then (match blk (k2 + 1) with
          | .error y => .error y
          | .ok (es, k3) => .ok (mkS kIf ⟨#[]⟩ [] el ss es, k3)) else .ok (mkS kIf ⟨#[]⟩ [] el ss [], k2)
/-- A row of one statement. -/
theorem repSL_one {S : Nat → Prop} {w : World} {b : Nat} {c0 c1 c2 c3 c4 c5 : Value} {s : DataW Unit} (hB : w.heap[b]? = some (.cells #[c0, c1, c2, c3, c4, c5] 39)) (hb : S b) (h : RepS S w [c0, c1, c2, c3, c4, c5] s) : RepSL S w (some ⟨b, 0, none⟩) [s] := by
  intro _
  obtain ⟨u0, u1, u2, u3, u4, u5, _⟩ := stmt_block hB
  refine ⟨b, 0, rfl, hb, fun i x hi => ?_⟩
  cases i with
  | zero =>
    simp at hi
    subst hi
    exact ⟨c0, c1, c2, c3, c4, c5, u0, u1, u2, u3, u4, u5, h⟩
  | succ i => simp at hi

set_option maxHeartbeats 4000000 in
set_option maxRecDepth 100000 in
theorem choice_any {p g cap : Nat} {rk : Value} {l : List (ByteArray × ByteArray × Nat)} {lo bl dp : Nat} {a0 a1 : Addr} (T : TokS l) (one blk : Nat → Out (List (DataW Unit)))
    (h1 : ∀ k', lo ≤ k' → k' < l.length → ReadsL 49 #[.pointer (some ⟨p, 0, none⟩)] p g cap rk l k' bl dp a0 a1 (one k'))
    (h2 : ∀ k', lo ≤ k' → k' < l.length → ReadsSL 50 #[.pointer (some ⟨p, 0, none⟩)] p g cap rk l k' bl dp a0 a1 (blk k')) (f : Nat) : ∀ k, lo ≤ k → k < l.length → l.length - k ≤ f → ReadsS 48 #[.pointer (some ⟨p, 0, none⟩)] p g cap rk l k bl dp a0 a1 (pChoice l one blk f k) := by
  induction f with
  | zero =>
  intro k _ hk hf
  omega
  | succ f IH =>
  intro k hlo hk hfu
  intro w R E X
  have hl := T.ok.hl
  have A0 := st_start R
  have HE := toHid E
  have HX := toHid X
  obtain ⟨o, ho⟩ : ∃ o, pChoice l one blk (f + 1) k = o := ⟨_, rfl⟩
  rw [ho]
  have HO := toHid ho
  have HPE : Hid (∀ y ev w', o = .error y → faultAt l p a0 a1 w y ev w' → PostS (fun b => w.heap.size ≤ b) p g cap rk l k bl dp a0 a1 w o ev w') := by
    rintro y ev w' rfl h
    exact h
  have hpl := A0.pl
  have hgl := A0.gl
  have HC0 := toHid (h1 k hlo hk _ A0.rd (HE.out.keeps A0.ks) (HX.out.keeps A0.ks))
  have HA0 := toHid A0
  have HH2 := toHid h2
  have HIH := toHid IH
  have hs0 : (w.alloc (.cells #[.string ⟨#[]⟩, .string ⟨#[]⟩, .slice none 0 0, .slice none 0 0, .slice none 0 0, .slice none 0 0] 39)).heap.size = w.heap.size + 1 := by simp
  clear R E X A0 ho h1 h2 IH
  go_enter Tryz.func48, Tryz.ntmps48
  go_wp2_with fail
  refine HC0.out.mono ?_
  intro ev w1 hP
  rw [hs0] at hP
  rcases hP.parts with ⟨el, k1, la, lc, q1, rfl, hL1, R1, K1, hk1, hk1l, hcap⟩ | ⟨y, b, q1, rfl, hf⟩
  rotate_left
  · have ho2 : o = .error y := by
      rw [← HO.out, pChoice]
      simp only [q1]
    have HF := toHid (HPE.out _ _ _ ho2 (faultAt.after HA0.out.ks.below hf))
    clear hP HC0 hf
    go_wp2_with fail
    exact ⟨rfl, HF.out⟩
  have A1 := HA0.out.go R1 K1
  have hs1 := K1.below.size
  rw [hs0] at hs1
  have HC1 := toHid (HH2.out k1 (by omega) hk1l _ A1.rd (HE.out.keeps A1.ks) (HX.out.keeps A1.ks))
  have HA1 := toHid A1
  have HL1 := toHid hL1
  have HQ1 := toHid q1
  clear hP HC0 R1 K1 A1 hL1 q1
  go_wp2_with fail
  refine HC1.out.mono ?_
  intro ev w2 hP
  rcases hP.parts with ⟨ss, k2, ba, bc, q2, rfl, hS1, R2, K2, hk2, hk2l⟩ | ⟨y, b, q2, rfl, hf⟩
  rotate_left
  · have ho2 : o = .error y := by
      rw [← HO.out, pChoice]
      simp only [HQ1.out, q2]
    have HF := toHid (HPE.out _ _ _ ho2 (faultAt.after HA1.out.ks.below hf))
    clear hP HC1 hf
    go_wp2_with fail
    exact ⟨rfl, HF.out⟩
  have hba : Below w2.heap.size w2 (w2.alloc (.cells #[.string kIf, .string ⟨#[]⟩, .slice none 0 0, .slice la el.length lc, .slice ba ss.length bc, .slice none 0 0] 39)) := (Below.refl _ _).alloc (Nat.le_refl _) _
  have A2 := (HA1.out.go R2 K2).more hba
  have hB2 : (w2.alloc (.cells #[.string kIf, .string ⟨#[]⟩, .slice none 0 0, .slice la el.length lc, .slice ba ss.length bc, .slice none 0 0] 39)).heap[w2.heap.size]? = some (.cells #[.string kIf, .string ⟨#[]⟩, .slice none 0 0, .slice la el.length lc, .slice ba ss.length bc, .slice none 0 0] 39) := heap_alloc_new w2 _
  have hs2 := K2.below.size
  have hL2 : RepL (fun b => w.heap.size < b ∧ b ≠ w2.heap.size) (w2.alloc (.cells #[.string kIf, .string ⟨#[]⟩, .slice none 0 0, .slice la el.length lc, .slice ba ss.length bc, .slice none 0 0] 39)) la el := (HL1.out.same (S' := fun b => w.heap.size + 1 ≤ b) (K2.same (by show ¬ (_ ≤ p); omega)) (fun b h _ => h)).same (same_below hba) (fun b h hl => ⟨by omega, by omega⟩)
  have hS2 : RepSL (fun b => w.heap.size < b ∧ b ≠ w2.heap.size) (w2.alloc (.cells #[.string kIf, .string ⟨#[]⟩, .slice none 0 0, .slice la el.length lc, .slice ba ss.length bc, .slice none 0 0] 39)) ba ss := hS1.same (same_below hba) (fun b hb hl => ⟨by omega, by omega⟩)
  obtain ⟨x2, hx2⟩ : ∃ x, l[k2]? = some x := ⟨l[k2], by simp [hk2l]⟩
  have HC2 := toHid (passMark_any A2.rd hx2 hl kElif)
  have HA2 := toHid A2
  have HB2 := toHid hB2
  have HL2 := toHid hL2
  have HS2 := toHid hS2
  have HQ2 := toHid q2
  clear hP HC1 R2 K2 A2 hB2 hba hL2 hS2 hS1 q2
  go_wp2_with fail
  refine HC2.out.mono ?_
  rintro ev w3 ⟨rfl, R3, K3⟩
  have hB3 := (K3.block w2.heap.size (by omega) (lt_of_heap HB2.out)).trans HB2.out
  have hL3 := HL2.out.same (S' := (fun b => w.heap.size < b ∧ b ≠ w2.heap.size)) (K3.same (fun h => by have := h.1; omega)) (fun b hb _ => hb)
  have hS3 := HS2.out.same (S' := (fun b => w.heap.size < b ∧ b ≠ w2.heap.size)) (K3.same (fun h => by have := h.1; omega)) (fun b hb _ => hb)
  have HB3 := toHid hB3
  have HL3 := toHid hL3
  have HS3 := toHid hS3
  have hlt3 := lt_of_heap hB3
  clear hB3 hL3 hS3 HC2
  cases hm : markB x2 [kElif] with
  | true =>
  rw [hm, if_pos rfl] at R3
  have hk3 := T.ok.hen.next hx2 hm
  have A3 := HA2.out.go R3 K3
  have HC3 := toHid (HIH.out (k2 + 1) (by omega) hk3 (by omega) _ A3.rd (HE.out.keeps A3.ks) (HX.out.keeps A3.ks))
  have HA3 := toHid A3
  clear R3 K3 A3
  go_wp2_with fail
  refine HC3.out.mono ?_
  intro ev w4 hP
  rcases hP.parts with ⟨s4, k4, kd4, nm4, pa4, pn4, pc4, la4, ln4, lc4, ba4, bn4, bc4, ea4, en4, ec4, q4, rfl, hrep4, R4, K4, hk4, hk4l⟩ | ⟨y, b, q4, rfl, hf⟩
  rotate_left
  · have ho2 : o = .error y := by
      rw [← HO.out, pChoice]
      simp only [HQ1.out, HQ2.out, markAt_of hx2, hm, cond_true, q4]
    have HF := toHid (HPE.out _ _ _ ho2 (faultAt.after HA3.out.ks.below hf))
    clear hP HC3 hf
    go_wp2_with fail
    exact ⟨rfl, HF.out⟩
  have hba4 : Below w4.heap.size w4 (w4.alloc (.cells #[.string kd4, .string nm4, .slice pa4 pn4 pc4, .slice la4 ln4 lc4, .slice ba4 bn4 bc4, .slice ea4 en4 ec4] 39)) := (Below.refl _ _).alloc (Nat.le_refl _) _
  have A4 := (HA3.out.go R4 K4).more hba4
  have hN4 : (w4.alloc (.cells #[.string kd4, .string nm4, .slice pa4 pn4 pc4, .slice la4 ln4 lc4, .slice ba4 bn4 bc4, .slice ea4 en4 ec4] 39)).heap[w4.heap.size]? = some (.cells #[.string kd4, .string nm4, .slice pa4 pn4 pc4, .slice la4 ln4 lc4, .slice ba4 bn4 bc4, .slice ea4 en4 ec4] 39) := heap_alloc_new w4 _
  have hs4 := K4.below.size
  have hB4 := (hba4.block w2.heap.size (by omega)).trans ((K4.block w2.heap.size (by omega) hlt3).trans HB3.out)
  have hL4 := (HL3.out.same (S' := (fun b => w.heap.size < b ∧ b ≠ w2.heap.size)) (K4.same (fun h => by have := h.1; omega)) (fun b hb _ => hb)).same (S' := (fun b => w.heap.size < b ∧ b ≠ w2.heap.size)) (same_below hba4) (fun b hb _ => hb)
  have hS4 := (HS3.out.same (S' := (fun b => w.heap.size < b ∧ b ≠ w2.heap.size)) (K4.same (fun h => by have := h.1; omega)) (fun b hb _ => hb)).same (S' := (fun b => w.heap.size < b ∧ b ≠ w2.heap.size)) (same_below hba4) (fun b hb _ => hb)
  have hE4 : RepSL (fun b => w.heap.size < b ∧ b ≠ w2.heap.size) (w4.alloc (.cells #[.string kd4, .string nm4, .slice pa4 pn4 pc4, .slice la4 ln4 lc4, .slice ba4 bn4 bc4, .slice ea4 en4 ec4] 39)) (some ⟨w4.heap.size, 0, none⟩) [s4] := repSL_one hN4 ⟨by omega, by omega⟩ (hrep4.same (same_below hba4) (fun b hb _ => ⟨by omega, by omega⟩))
  obtain ⟨s0, s1, s2, s3, s4', s5, sf⟩ := stmt_block hB4
  have sf5 := sf 5
  have sl := lt_of_heap hB4
  have A6 := A4.put (b := w2.heap.size) (o := 5) (v := .slice (some ⟨w4.heap.size, 0, none⟩) 1 1) (by omega)
  have hB6 := put_block (o := 5) (v := .slice (some ⟨w4.heap.size, 0, none⟩) 1 1) hB4 #[.string kIf, .string ⟨#[]⟩, .slice none 0 0, .slice la el.length lc, .slice ba ss.length bc, .slice (some ⟨w4.heap.size, 0, none⟩) 1 1] rfl
  have hL6 := hL4.same (S' := (fun b => w.heap.size < b ∧ b ≠ w2.heap.size)) (same_set (b := w2.heap.size) (o := 5) (v := .slice (some ⟨w4.heap.size, 0, none⟩) 1 1) (fun h => h.2 rfl)) (fun b hb _ => hb)
  have hS6 := hS4.same (S' := (fun b => w.heap.size < b ∧ b ≠ w2.heap.size)) (same_set (b := w2.heap.size) (o := 5) (v := .slice (some ⟨w4.heap.size, 0, none⟩) 1 1) (fun h => h.2 rfl)) (fun b hb _ => hb)
  have hE6 := hE4.same (S' := (fun b => w.heap.size < b ∧ b ≠ w2.heap.size)) (same_set (b := w2.heap.size) (o := 5) (v := .slice (some ⟨w4.heap.size, 0, none⟩) 1 1) (fun h => h.2 rfl)) (fun b hb _ => hb)
  have ho6 : o = .ok (mkS kIf ⟨#[]⟩ [] el ss [s4], k4) := by
    rw [← HO.out, pChoice]
    simp only [HQ1.out, HQ2.out, markAt_of hx2, hm, cond_true, q4]
  have hZ := (st_done (c0 := .string kIf) (c1 := .string ⟨#[]⟩) (c2 := .slice none 0 0) (c3 := .slice la el.length lc) (c4 := .slice ba ss.length bc) (c5 := .slice (some ⟨w4.heap.size, 0, none⟩) 1 1) A6 (mkRepS (kd := kIf) (nm := ⟨#[]⟩) (pl := []) (pc := 0) (lc := lc) (bc := bc) (ec := 1) (RepN.nil _ _ none) hL6 hS6 hE6) (fun b hb => hb.1))
  have HZ := toHid hZ
  obtain ⟨u0, u1, u2, u3, u4, u5, uf⟩ := stmt_block A6.b4
  have uf0 := uf 0
  have uf1 := uf 1
  have uf2 := uf 2
  have uf3 := uf 3
  have uf4 := uf 4
  have uf5 := uf 5
  have ul := lt_of_heap A6.b4
  obtain ⟨v0, v1, v2, v3, v4, v5, _⟩ := stmt_block hB6
  have HO6 := toHid ho6
  clear hP HC3 hba4 A4 hN4 hB4 hL4 hS4 hE4 sf A6 hB6 hL6 hS6 hE6 hrep4 R4 K4 q4 uf ho6 hZ
  go_wp2_with fail
  obtain ⟨z1, z2, z3, z4⟩ := HZ.out
  refine bodyPost_ret (results_stmt _ 2 rfl _ _ w.heap.size _ _ _ _ _ _ rfl z1) rfl ?_
  rw [HO6.out]
  exact ⟨_, _, _, _, _, _, rfl, z2, z3, z4, by omega, hk4l⟩
  | false =>
  rw [hm, if_neg (by decide)] at R3
  have A3 := HA2.out.go R3 K3
  have HC3 := toHid (passMark_any A3.rd hx2 hl kElse)
  have HA3 := toHid A3
  clear R3 K3 A3
  go_wp2_with fail
  refine HC3.out.mono ?_
  rintro ev w4 ⟨rfl, R4, K4⟩
  have hs4 := K4.below.size
  have hB4 := (K4.block w2.heap.size (by omega) hlt3).trans HB3.out
  have hL4 := HL3.out.same (S' := (fun b => w.heap.size < b ∧ b ≠ w2.heap.size)) (K4.same (fun h => by have := h.1; omega)) (fun b hb _ => hb)
  have hS4 := HS3.out.same (S' := (fun b => w.heap.size < b ∧ b ≠ w2.heap.size)) (K4.same (fun h => by have := h.1; omega)) (fun b hb _ => hb)
  have hlt4 := lt_of_heap hB4
  cases hm2 : markB x2 [kElse] with
  | true =>
  rw [hm2, if_pos rfl] at R4
  have hk3 := T.ok.hen.next hx2 hm2
  have A4 := HA3.out.go R4 K4
  have HC4 := toHid (HH2.out (k2 + 1) (by omega) hk3 _ A4.rd (HE.out.keeps A4.ks) (HX.out.keeps A4.ks))
  have HA4 := toHid A4
  have HB4 := toHid hB4
  have HL4 := toHid hL4
  have HS4 := toHid hS4
  clear R4 K4 A4 hB4 hL4 hS4 HC3
  go_wp2_with fail
  refine HC4.out.mono ?_
  intro ev w5 hP
  rcases hP.parts with ⟨es, k5, ea, ec, q5, rfl, hE5, R5, K5, hk5, hk5l⟩ | ⟨y, b, q5, rfl, hf⟩
  rotate_left
  · have ho2 : o = .error y := by
      rw [← HO.out, pChoice]
      simp only [HQ1.out, HQ2.out, markAt_of hx2, hm, hm2, cond_true, cond_false, q5]
    have HF := toHid (HPE.out _ _ _ ho2 (faultAt.after HA4.out.ks.below hf))
    clear hP HC4 hf
    go_wp2_with fail
    exact ⟨rfl, HF.out⟩
  have A5 := HA4.out.go R5 K5
  have hs5 := K5.below.size
  have hB5 := (K5.block w2.heap.size (by omega) hlt4).trans HB4.out
  have hL5 := HL4.out.same (S' := (fun b => w.heap.size < b ∧ b ≠ w2.heap.size)) (K5.same (fun h => by have := h.1; omega)) (fun b hb _ => hb)
  have hS5 := HS4.out.same (S' := (fun b => w.heap.size < b ∧ b ≠ w2.heap.size)) (K5.same (fun h => by have := h.1; omega)) (fun b hb _ => hb)
  obtain ⟨s0, s1, s2, s3, s4', s5, sf⟩ := stmt_block hB5
  have sf5 := sf 5
  have sl := lt_of_heap hB5
  have A6 := A5.put (b := w2.heap.size) (o := 5) (v := .slice ea es.length ec) (by omega)
  have hB6 := put_block (o := 5) (v := .slice ea es.length ec) hB5 #[.string kIf, .string ⟨#[]⟩, .slice none 0 0, .slice la el.length lc, .slice ba ss.length bc, .slice ea es.length ec] rfl
  have hL6 := hL5.same (S' := (fun b => w.heap.size < b ∧ b ≠ w2.heap.size)) (same_set (b := w2.heap.size) (o := 5) (v := .slice ea es.length ec) (fun h => h.2 rfl)) (fun b hb _ => hb)
  have hS6 := hS5.same (S' := (fun b => w.heap.size < b ∧ b ≠ w2.heap.size)) (same_set (b := w2.heap.size) (o := 5) (v := .slice ea es.length ec) (fun h => h.2 rfl)) (fun b hb _ => hb)
  have hE6 : RepSL (fun b => w.heap.size < b ∧ b ≠ w2.heap.size) (w5.setCell ⟨w2.heap.size, 5, none⟩ (.slice ea es.length ec)) ea es := hE5.same (same_set (by show ¬ (_ ≤ w2.heap.size); omega)) (fun b hb _ => ⟨by omega, by omega⟩)
  have ho6 : o = .ok (mkS kIf ⟨#[]⟩ [] el ss es, k5) := by
    rw [← HO.out, pChoice]
    simp only [HQ1.out, HQ2.out, markAt_of hx2, hm, hm2, cond_true, cond_false, q5]
  have hZ := (st_done (c0 := .string kIf) (c1 := .string ⟨#[]⟩) (c2 := .slice none 0 0) (c3 := .slice la el.length lc) (c4 := .slice ba ss.length bc) (c5 := .slice ea es.length ec) A6 (mkRepS (kd := kIf) (nm := ⟨#[]⟩) (pl := []) (pc := 0) (lc := lc) (bc := bc) (ec := ec) (RepN.nil _ _ none) hL6 hS6 hE6) (fun b hb => hb.1))
  have HZ := toHid hZ
  obtain ⟨u0, u1, u2, u3, u4, u5, uf⟩ := stmt_block A6.b4
  have uf0 := uf 0
  have uf1 := uf 1
  have uf2 := uf 2
  have uf3 := uf 3
  have uf4 := uf 4
  have uf5 := uf 5
  have ul := lt_of_heap A6.b4
  obtain ⟨v0, v1, v2, v3, v4, v5, _⟩ := stmt_block hB6
  have HO6 := toHid ho6
  clear hP HC4 A5 hB5 hL5 hS5 hE5 sf A6 hB6 hL6 hS6 hE6 R5 K5 q5 uf ho6 hZ
  go_wp2_with fail
  obtain ⟨z1, z2, z3, z4⟩ := HZ.out
  refine bodyPost_ret (results_stmt _ 2 rfl _ _ w.heap.size _ _ _ _ _ _ rfl z1) rfl ?_
  rw [HO6.out]
  exact ⟨_, _, _, _, _, _, rfl, z2, z3, z4, by omega, hk5l⟩
  | false =>
  rw [hm2, if_neg (by decide)] at R4
  have A6 := HA3.out.go R4 K4
  have ho6 : o = .ok (mkS kIf ⟨#[]⟩ [] el ss [], k2) := by
    rw [← HO.out, pChoice]
    simp only [HQ1.out, HQ2.out, markAt_of hx2, hm, hm2, cond_false]
  have hZ := (st_done (c0 := .string kIf) (c1 := .string ⟨#[]⟩) (c2 := .slice none 0 0) (c3 := .slice la el.length lc) (c4 := .slice ba ss.length bc) (c5 := .slice none 0 0) A6 (mkRepS (kd := kIf) (nm := ⟨#[]⟩) (pl := []) (pc := 0) (lc := lc) (bc := bc) (es := []) (ec := 0) (RepN.nil _ _ none) hL4 hS4 (RepSL.nil _ _ none)) (fun b hb => hb.1))
  have HZ := toHid hZ
  obtain ⟨u0, u1, u2, u3, u4, u5, uf⟩ := stmt_block A6.b4
  have uf0 := uf 0
  have uf1 := uf 1
  have uf2 := uf 2
  have uf3 := uf 3
  have uf4 := uf 4
  have uf5 := uf 5
  have ul := lt_of_heap A6.b4
  obtain ⟨v0, v1, v2, v3, v4, v5, _⟩ := stmt_block hB4
  have HO6 := toHid ho6
  clear HC3 A6 hB4 hL4 hS4 R4 K4 uf ho6 hZ
  go_wp2_with fail
  obtain ⟨z1, z2, z3, z4⟩ := HZ.out
  refine bodyPost_ret (results_stmt _ 2 rfl _ _ w.heap.size _ _ _ _ _ _ rfl z1) rfl ?_
  rw [HO6.out]
  exact ⟨_, _, _, _, _, _, rfl, z2, z3, z4, by omega, hk2l⟩
end Go.Proofs.YtajkahckmhipkaaGreatDoor
