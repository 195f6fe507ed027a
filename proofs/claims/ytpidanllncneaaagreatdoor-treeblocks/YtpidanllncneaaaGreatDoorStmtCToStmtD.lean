/- Package tree: blocks of six cells (written by tools/tree/six.py). -/
import Derived.Test.YtpidanllncneaaaGreatDoorTreeYToStmtB
namespace Go.Proofs.YtpidanllncneaaaGreatDoor
open Go.RowKit

theorem stmt_block {w : World} {b : Nat} {u0 u1 u2 u3 u4 u5 : Value} (h : w.heap[b]? = some (.cells #[u0, u1, u2, u3, u4, u5] 33)) :
    w.cell? ⟨b, 0, none⟩ = some u0 ∧ w.cell? ⟨b, 1, none⟩ = some u1 ∧ w.cell? ⟨b, 2, none⟩ = some u2 ∧ w.cell? ⟨b, 3, none⟩ = some u3 ∧ w.cell? ⟨b, 4, none⟩ = some u4 ∧ w.cell? ⟨b, 5, none⟩ = some u5 ∧ ∀ o, w.frozen? ⟨b, o, none⟩ = false := by
  refine ⟨?_, ?_, ?_, ?_, ?_, ?_, fun o => by simp [World.frozen?, h]⟩
  · rw [cell_of_row w b 0 _ _ _ h]; rfl
  · rw [cell_of_row w b 1 _ _ _ h]; rfl
  · rw [cell_of_row w b 2 _ _ _ h]; rfl
  · rw [cell_of_row w b 3 _ _ _ h]; rfl
  · rw [cell_of_row w b 4 _ _ _ h]; rfl
  · rw [cell_of_row w b 5 _ _ _ h]; rfl
/-- Six stores into a block of six. -/
def set6 (w : World) (b : Nat) (v0 v1 v2 v3 v4 v5 : Value) : World := ((((((w.setCell ⟨b, 0, none⟩ v0).setCell ⟨b, 1, none⟩ v1).setCell ⟨b, 2, none⟩ v2).setCell ⟨b, 3, none⟩ v3).setCell ⟨b, 4, none⟩ v4).setCell ⟨b, 5, none⟩ v5)
theorem set6_block {w : World} {b : Nat} {u0 u1 u2 u3 u4 u5 : Value} {fr : Nat × Nat} (h : w.heap[b]? = some (.cells #[u0, u1, u2, u3, u4, u5] 33 fr)) (v0 v1 v2 v3 v4 v5 : Value) : (set6 w b v0 v1 v2 v3 v4 v5).heap[b]? = some (.cells #[v0, v1, v2, v3, v4, v5] 33 fr) := by
  unfold set6
  rw [heap_set_same (heap_set_same (heap_set_same (heap_set_same (heap_set_same (heap_set_same h)))))]
  rfl
theorem set6_other {w : World} {b k : Nat} (h : k ≠ b) (v0 v1 v2 v3 v4 v5 : Value) : (set6 w b v0 v1 v2 v3 v4 v5).heap[k]? = w.heap[k]? := by
  unfold set6
  rw [heap_set _ _ _ _ _ h, heap_set _ _ _ _ _ h, heap_set _ _ _ _ _ h, heap_set _ _ _ _ _ h, heap_set _ _ _ _ _ h, heap_set _ _ _ _ _ h]
theorem set6_size (w : World) (b : Nat) (v0 v1 v2 v3 v4 v5 : Value) : (set6 w b v0 v1 v2 v3 v4 v5).heap.size = w.heap.size := by
  unfold set6
  simp only [size_set]
theorem RD.set6 {w : World} {p g cap : Nat} {rk : Value} {l : List (ByteArray × ByteArray × Nat)} {k bl dp b : Nat} (R : RD w p g cap rk l k bl dp) (hp : p ≠ b) (hg : g ≠ b) (v0 v1 v2 v3 v4 v5 : Value) : RD (Go.Proofs.YtpidanllncneaaaGreatDoor.set6 w b v0 v1 v2 v3 v4 v5) p g cap rk l k bl dp :=
  (((((R.other hp hg).other hp hg).other hp hg).other hp hg).other hp hg).other hp hg
theorem Keeps.set6 {p b : Nat} {w w' : World} (h : Keeps p w w') (hp : p ≤ b) (hb : w.heap.size ≤ b) (v0 v1 v2 v3 v4 v5 : Value) : Keeps p w (Go.Proofs.YtpidanllncneaaaGreatDoor.set6 w' b v0 v1 v2 v3 v4 v5) :=
  (((((h.other hp hb).other hp hb).other hp hb).other hp hb).other hp hb).other hp hb
theorem same_set6 {S : Nat → Prop} {w : World} {b : Nat} (h : ¬ S b) (v0 v1 v2 v3 v4 v5 : Value) : Same S w (set6 w b v0 v1 v2 v3 v4 v5) := fun k hk _ => set6_other (b := b) (k := k) (fun e => h (by rw [← e]; exact hk)) _ _ _ _ _ _ 
theorem set6_alloc {w : World} {x : Obj} {b : Nat} (h : b < w.heap.size) (v0 v1 v2 v3 v4 v5 : Value) : set6 (w.alloc x) b v0 v1 v2 v3 v4 v5 = (set6 w b v0 v1 v2 v3 v4 v5).alloc x := by
  unfold set6
  rw [World.setCell_alloc_past _ _ _ _ h, World.setCell_alloc_past _ _ _ _ (by rw [size_set]; exact h), World.setCell_alloc_past _ _ _ _ (by rw [size_set, size_set]; exact h), World.setCell_alloc_past _ _ _ _ (by rw [size_set, size_set, size_set]; exact h), World.setCell_alloc_past _ _ _ _ (by rw [size_set, size_set, size_set, size_set]; exact h), World.setCell_alloc_past _ _ _ _ (by rw [size_set, size_set, size_set, size_set, size_set]; exact h)]
theorem results_stmt (f : Func) (r : Nat) (hr : f.results = #[.cell r 33]) (tmps : Array Value) (W : World) (b : Nat) (v0 v1 v2 v3 v4 v5 : Value) (h2 : tmps[r]?.getD undef = .pointer (some ⟨b, 0, none⟩)) (hb : W.heap[b]? = some (.cells #[v0, v1, v2, v3, v4, v5] 33)) :
    (results f tmps).run Tryz.prog W = .ok (.agg #[v0, v1, v2, v3, v4, v5]) W := by
  obtain ⟨c0, c1, c2, c3, c4, c5, _⟩ := stmt_block hb
  simp [results, hr, go_sem, h2, c0, c1, c2, c3, c4, c5]

/-- How it stands in a function that builds a statement: B: the block of what is handed back. -/
structure StAt (p g cap : Nat) (rk : Value) (l : List (ByteArray × ByteArray × Nat)) (bl dp : Nat) (w : World) (B k2 : Nat) (wx : World) : Prop where
  rd : RD wx p g cap rk l k2 bl dp
  ks : Keeps p w wx
  b4 : wx.heap[B]? = some (.cells #[.string ⟨#[]⟩, .string ⟨#[]⟩, .slice none 0 0, .slice none 0 0, .slice none 0 0, .slice none 0 0] 33)
  pl : p < w.heap.size
  gl : g < w.heap.size
  wB : w.heap.size ≤ B
theorem StAt.more {p g cap : Nat} {rk : Value} {l : List (ByteArray × ByteArray × Nat)} {k2 bl dp B : Nat} {w wx w' : World} (A : StAt p g cap rk l bl dp w B k2 wx) (hb : Below wx.heap.size wx w') : StAt p g cap rk l bl dp w B k2 w' := by
  have hs := A.ks.below.size
  have hp := A.pl
  exact ⟨A.rd.more hb, A.ks.trans (Keeps.of hb (by omega)), (hb.block _ (lt_of_heap A.b4)).trans A.b4, A.pl, A.gl, A.wB⟩
theorem StAt.go {p g cap : Nat} {rk : Value} {l : List (ByteArray × ByteArray × Nat)} {k2 k3 bl dp B : Nat} {w wx w' : World} (A : StAt p g cap rk l bl dp w B k2 wx) (R : RD w' p g cap rk l k3 bl dp) (K : Keeps p wx w') : StAt p g cap rk l bl dp w B k3 w' := by
  have hp := A.pl
  have hB := A.wB
  exact ⟨R, A.ks.trans K, (K.block _ (by omega) (lt_of_heap A.b4)).trans A.b4, A.pl, A.gl, A.wB⟩
theorem st_start {p g cap : Nat} {rk : Value} {l : List (ByteArray × ByteArray × Nat)} {k bl dp : Nat} {w : World} (R : RD w p g cap rk l k bl dp) : StAt p g cap rk l bl dp w w.heap.size k (w.alloc (.cells #[.string ⟨#[]⟩, .string ⟨#[]⟩, .slice none 0 0, .slice none 0 0, .slice none 0 0, .slice none 0 0] 33)) := by
  have hpl := lt_of_heap R.blk
  have hb0 : Below w.heap.size w (w.alloc (.cells #[.string ⟨#[]⟩, .string ⟨#[]⟩, .slice none 0 0, .slice none 0 0, .slice none 0 0, .slice none 0 0] 33)) := (Below.refl _ _).alloc (Nat.le_refl _) _
  exact ⟨R.more hb0, Keeps.of hb0 (by omega), heap_alloc_new w _, hpl, R.gl, Nat.le_refl _⟩
/-- A statement laid into the block of what is handed back. -/
theorem st_done {S : Nat → Prop} {p g cap : Nat} {rk : Value} {l : List (ByteArray × ByteArray × Nat)} {k2 bl dp B : Nat} {w wx : World} {s : DataW Unit} {c0 c1 c2 c3 c4 c5 : Value} (A : StAt p g cap rk l bl dp w B k2 wx) (hrep : RepS S wx [c0, c1, c2, c3, c4, c5] s) (hS : ∀ b, S b → B < b) :
    (set6 wx B c0 c1 c2 c3 c4 c5).heap[B]? = some (.cells #[c0, c1, c2, c3, c4, c5] 33) ∧ RepS (fun b => w.heap.size ≤ b) (set6 wx B c0 c1 c2 c3 c4 c5) [c0, c1, c2, c3, c4, c5] s ∧ RD (set6 wx B c0 c1 c2 c3 c4 c5) p g cap rk l k2 bl dp ∧ Keeps p w (set6 wx B c0 c1 c2 c3 c4 c5) := by
  have hp := A.pl
  have hg := A.gl
  have hB := A.wB
  exact ⟨set6_block A.b4 _ _ _ _ _ _ , hrep.same (same_set6 (fun h => by have := hS B h; omega) _ _ _ _ _ _ ) (fun b h _ => by have := hS b h; omega), A.rd.set6 (by omega) (by omega) _ _ _ _ _ _ , A.ks.set6 (by omega) hB _ _ _ _ _ _ ⟩
end Go.Proofs.YtpidanllncneaaaGreatDoor

/- Package tree: each, attempt (written by tools/tree/each.py). -/
namespace Go.Proofs.YtpidanllncneaaaGreatDoor
open Go.RowKit

def kFor : ByteArray := ⟨#[102, 111, 114]⟩
def kIn : ByteArray := ⟨#[105, 110]⟩
def kTry : ByteArray := ⟨#[116, 114, 121]⟩
def kExcept : ByteArray := ⟨#[101, 120, 99, 101, 112, 116]⟩
def txtAt (l : List (ByteArray × ByteArray × Nat)) (k : Nat) : ByteArray := match l[k]? with
  | some x => x.2.1
  | none => ⟨#[]⟩
theorem txtAt_of {l : List (ByteArray × ByteArray × Nat)} {k : Nat} {x : ByteArray × ByteArray × Nat} (hx : l[k]? = some x) : txtAt l k = x.2.1 := by
  unfold txtAt
  rw [hx]
def pEach (l : List (ByteArray × ByteArray × Nat)) (one blk : Nat → Out (List (DataW Unit))) (k : Nat) : Out (DataW Unit) :=
  bif isKind l k [110, 97, 109, 101] then (bif markAt l (k + 1) [kIn] then (match one (k + 2) with
    | .error y => .error y
    | .ok (el, k1) => match blk k1 with
      | .error y => .error y
      | .ok (ss, k2) => .ok (mkS kFor (txtAt l k) [] el ss [], k2)) else .error (k + 1, false)) else .error (k, false)
def pAttempt (l : List (ByteArray × ByteArray × Nat)) (blk : Nat → Out (List (DataW Unit))) (k : Nat) : Out (DataW Unit) := match blk k with
  | .error y => .error y
  | .ok (ss, k1) => bif markAt l k1 [kExcept] then (bif isKind l (k1 + 1) [110, 97, 109, 101] then (match blk (k1 + 2) with
      | .error y => .error y
      | .ok (es, k2) => .ok (mkS kTry (txtAt l (k1 + 1)) [] [] ss es, k2)) else .error (k1 + 1, false)) else .error (k1, false)
theorem StAt.put {p g cap : Nat} {rk : Value} {l : List (ByteArray × ByteArray × Nat)} {k2 bl dp B b o : Nat} {w wx : World} {v : Value} (A : StAt p g cap rk l bl dp w B k2 wx) (hb : B < b) : StAt p g cap rk l bl dp w B k2 (wx.setCell ⟨b, o, none⟩ v) := by
  have hp := A.pl
  have hg := A.gl
  have hB := A.wB
  exact ⟨A.rd.other (by omega) (by omega), A.ks.other (by omega) (by omega), (heap_set _ _ _ _ _ (by omega)).trans A.b4, A.pl, A.gl, A.wB⟩
theorem put_block {w : World} {b o : Nat} {cs : Array Value} {v : Value} (h : w.heap[b]? = some (.cells cs 33)) (cs' : Array Value) (e : cs.setIfInBounds o v = cs') : (w.setCell ⟨b, o, none⟩ v).heap[b]? = some (.cells cs' 33) := by
  rw [heap_set_same h, e]

set_option maxHeartbeats 4000000 in
set_option maxRecDepth 100000 in
theorem each_any {p g cap : Nat} {rk : Value} {l : List (ByteArray × ByteArray × Nat)} {k bl dp : Nat} {a0 a1 : Addr} (T : TokS l) (hk : k < l.length) (one blk : Nat → Out (List (DataW Unit)))
    (h1 : ∀ k', k < k' → k' < l.length → ReadsL 36 #[.pointer (some ⟨p, 0, none⟩)] p g cap rk l k' bl dp a0 a1 (one k'))
    (h2 : ∀ k', k < k' → k' < l.length → ReadsSL 37 #[.pointer (some ⟨p, 0, none⟩)] p g cap rk l k' bl dp a0 a1 (blk k')) : ReadsS 38 #[.pointer (some ⟨p, 0, none⟩)] p g cap rk l k bl dp a0 a1 (pEach l one blk k) := by
  intro w R E X
  have hl := T.ok.hl
  have A0 := st_start R
  have HE := toHid E
  have HX := toHid X
  obtain ⟨o, ho⟩ : ∃ o, pEach l one blk k = o := ⟨_, rfl⟩
  rw [ho]
  have HO := toHid ho
  have HPE : Hid (∀ y ev w', o = .error y → faultAt l p a0 a1 w y ev w' → PostS (fun b => w.heap.size ≤ b) p g cap rk l k bl dp a0 a1 w o ev w') := by
    rintro y ev w' rfl h
    exact h
  have hpl := A0.pl
  have hgl := A0.gl
  obtain ⟨x, hx⟩ : ∃ x, l[k]? = some x := ⟨l[k], by simp [hk]⟩
  have HN := toHid (rname_any A0.rd (HE.out.keeps A0.ks) hx hl)
  have HA0 := toHid A0
  have HH1 := toHid h1
  have HH2 := toHid h2
  clear R E X A0 ho h1 h2
  go_enter Tryz.func38, Tryz.ntmps38
  go_wp2_with fail
  refine HN.out.mono ?_
  rintro ev w1 (⟨hm, rfl, R1, K1⟩ | ⟨hm, t, g1, b, rfl, g2⟩)
  rotate_left
  · have ho2 : o = .error (k, false) := by
      rw [← HO.out, pEach, isKind_of hx, show (x.1.toList == [110, 97, 109, 101]) = false from hm]
      rfl
    have HF := toHid (HPE.out _ _ _ ho2 (faultAt.after HA0.out.ks.below ⟨t, g1, b, rfl, g2⟩))
    clear g1 g2 HN
    go_wp2_with fail
    exact ⟨rfl, HF.out⟩
  have hkn : isKind l k [110, 97, 109, 101] = true := (isKind_of hx _).trans hm
  have hk1 := T.next hkn (by decide)
  obtain ⟨x1, hx1⟩ : ∃ x, l[k + 1]? = some x := ⟨l[k + 1], by simp [hk1]⟩
  have hba : Below w1.heap.size w1 (w1.alloc (.cells #[.string kFor, .string x.2.1, .slice none 0 0, .slice none 0 0, .slice none 0 0, .slice none 0 0] 33)) := (Below.refl _ _).alloc (Nat.le_refl _) _
  have A1 := (HA0.out.go R1 K1).more hba
  have hB1 : (w1.alloc (.cells #[.string kFor, .string x.2.1, .slice none 0 0, .slice none 0 0, .slice none 0 0, .slice none 0 0] 33)).heap[w1.heap.size]? = some (.cells #[.string kFor, .string x.2.1, .slice none 0 0, .slice none 0 0, .slice none 0 0, .slice none 0 0] 33) := heap_alloc_new w1 _
  have hsz : w.heap.size < w1.heap.size := by
    have h3 := K1.below.size
    simp at h3
    omega
  have HA1 := toHid A1
  have HB1 := toHid hB1
  have HC1 := toHid (needMark_any A1.rd (HE.out.keeps A1.ks) hx1 hl kIn)
  clear R1 K1 A1 hB1 hba HN
  go_wp2_with fail
  refine HC1.out.mono ?_
  intro ev w2 hT
  cases hm1 : markB x1 [kIn] with
  | false =>
  rw [hm1] at hT
  rw [if_neg (by decide)] at hT
  obtain ⟨t, g1, b, rfl, g2⟩ := hT
  have ho2 : o = .error (k + 1, false) := by
    rw [← HO.out, pEach, hkn, markAt_of hx1, hm1]
    rfl
  have HF := toHid (HPE.out _ _ _ ho2 (faultAt.after HA1.out.ks.below ⟨t, g1, b, rfl, g2⟩))
  clear g1 g2 HC1
  go_wp2_with fail
  exact ⟨rfl, HF.out⟩
  | true =>
  rw [hm1] at hT
  rw [if_pos rfl] at hT
  obtain ⟨rfl, R2, K2⟩ := hT
  have hk2 := T.ok.hen.next hx1 hm1
  have A2 := HA1.out.go R2 K2
  have hB2 := (K2.block w1.heap.size (by omega) (lt_of_heap HB1.out)).trans HB1.out
  have HC2 := toHid (HH1.out (k + 2) (by omega) hk2 w2 A2.rd (HE.out.keeps A2.ks) (HX.out.keeps A2.ks))
  have HA2 := toHid A2
  have HB2 := toHid hB2
  have hlt2 := lt_of_heap hB2
  clear HC1 R2 K2 A2 hB2
  go_wp2_with fail
  refine HC2.out.mono ?_
  intro ev w3 hP
  rcases hP.parts with ⟨el, k3, la, lc, q3, rfl, hL, R3, K3, hk3, hk3l⟩ | ⟨y, b, q3, rfl, hf⟩
  rotate_left
  · have ho2 : o = .error y := by
      rw [← HO.out, pEach, hkn, markAt_of hx1, hm1]
      simp only [cond_true, q3]
    have HF := toHid (HPE.out _ _ _ ho2 (faultAt.after HA2.out.ks.below hf))
    clear hP HC2 hf
    go_wp2_with fail
    exact ⟨rfl, HF.out⟩
  have A3 := HA2.out.go R3 K3
  have hB3 := (K3.block w1.heap.size (by omega) hlt2).trans HB2.out
  obtain ⟨t0, t1, t2, t3, t4, t5, tf⟩ := stmt_block hB3
  have tf3 := tf 3
  have tl := lt_of_heap hB3
  have A4 := A3.put (b := w1.heap.size) (o := 3) (v := .slice la el.length lc) hsz
  have hB4 := put_block (o := 3) (v := .slice la el.length lc) hB3 #[.string kFor, .string x.2.1, .slice none 0 0, .slice la el.length lc, .slice none 0 0, .slice none 0 0] rfl
  have hL4 : RepL (fun b => w1.heap.size < b) (w3.setCell ⟨w1.heap.size, 3, none⟩ (.slice la el.length lc)) la el := hL.same (same_set (by show ¬ (w2.heap.size ≤ w1.heap.size); omega)) (fun b hb _ => by show w1.heap.size < b; omega)
  have HC4 := toHid (HH2.out k3 (by omega) hk3l _ A4.rd (HE.out.keeps A4.ks) (HX.out.keeps A4.ks))
  have HA4 := toHid A4
  have HB4 := toHid hB4
  have HL4 := toHid hL4
  have HQ3 := toHid q3
  have hlt4 := lt_of_heap hB4
  clear hP HC2 R3 K3 A3 hB3 tf A4 hB4 hL hL4 q3
  go_wp2_with fail
  refine HC4.out.mono ?_
  intro ev w5 hP
  rcases hP.parts with ⟨ss, k5, ba, bc, q5, rfl, hS5, R5, K5, hk5, hk5l⟩ | ⟨y, b, q5, rfl, hf⟩
  rotate_left
  · have ho2 : o = .error y := by
      rw [← HO.out, pEach, hkn, markAt_of hx1, hm1]
      simp only [cond_true, HQ3.out, q5]
    have HF := toHid (HPE.out _ _ _ ho2 (faultAt.after HA4.out.ks.below hf))
    clear hP HC4 hf
    go_wp2_with fail
    exact ⟨rfl, HF.out⟩
  have A5 := HA4.out.go R5 K5
  have hB5 := (K5.block w1.heap.size (by omega) hlt4).trans HB4.out
  obtain ⟨s0, s1, s2, s3, s4, s5, sf⟩ := stmt_block hB5
  have sf4 := sf 4
  have sl := lt_of_heap hB5
  have A6 := A5.put (b := w1.heap.size) (o := 4) (v := .slice ba ss.length bc) hsz
  have hB6 := put_block (o := 4) (v := .slice ba ss.length bc) hB5 #[.string kFor, .string x.2.1, .slice none 0 0, .slice la el.length lc, .slice ba ss.length bc, .slice none 0 0] rfl
  have hsx : (w3.setCell ⟨w1.heap.size, 3, none⟩ (.slice la el.length lc)).heap.size = w3.heap.size := size_set _ _ _
  have hs3 : w1.heap.size < w3.heap.size := tl
  have hL6 : RepL (fun b => w1.heap.size < b) (w5.setCell ⟨w1.heap.size, 4, none⟩ (.slice ba ss.length bc)) la el := (HL4.out.same (K5.same (by show ¬ (w1.heap.size < p); omega)) (fun b hb _ => hb)).same (same_set (by show ¬ (w1.heap.size < w1.heap.size); omega)) (fun b hb _ => hb)
  have hS6 : RepSL (fun b => w1.heap.size < b) (w5.setCell ⟨w1.heap.size, 4, none⟩ (.slice ba ss.length bc)) ba ss := hS5.same (same_set (by show ¬ (_ ≤ w1.heap.size); rw [hsx]; omega)) (fun b hb _ => by rw [hsx] at hb; show w1.heap.size < b; omega)
  have ho6 : o = .ok (mkS kFor x.2.1 [] el ss [], k5) := by
    rw [← HO.out, pEach, hkn, markAt_of hx1, hm1]
    simp only [cond_true, HQ3.out, q5, txtAt_of hx]
  have HZ := toHid (st_done (c0 := .string kFor) (c1 := .string x.2.1) (c2 := .slice none 0 0) (c3 := .slice la el.length lc) (c4 := .slice ba ss.length bc) (c5 := .slice none 0 0) A6 (mkRepS (kd := kFor) (nm := x.2.1) (pl := []) (es := []) (pc := 0) (lc := lc) (bc := bc) (ec := 0) (RepN.nil _ _ none) hL6 hS6 (RepSL.nil _ _ none)) (fun b (hb : w1.heap.size < b) => by omega))
  obtain ⟨u0, u1, u2, u3, u4, u5, uf⟩ := stmt_block A6.b4
  have uf0 := uf 0
  have uf1 := uf 1
  have uf2 := uf 2
  have uf3 := uf 3
  have uf4 := uf 4
  have uf5 := uf 5
  have ul := lt_of_heap A6.b4
  obtain ⟨q0, q1, q2, qq3, q4, qq5, _⟩ := stmt_block hB6
  have HO6 := toHid ho6
  clear hP HC4 A5 hB5 sf A6 hB6 hL6 hS6 uf hS5 R5 K5 ho6 q5
  go_wp2_with fail
  obtain ⟨z1, z2, z3, z4⟩ := HZ.out
  refine bodyPost_ret (results_stmt _ 2 rfl _ _ w.heap.size _ _ _ _ _ _ rfl z1) rfl ?_
  rw [HO6.out]
  exact ⟨_, _, _, _, _, _, rfl, z2, z3, z4, by omega, hk5l⟩
end Go.Proofs.YtpidanllncneaaaGreatDoor
