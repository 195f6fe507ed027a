/- Package tree: a list of terms in memory; one; lambda. -/
import Derived.Test.YtpidanllncneaaaGreatDoorTreeFToTreeG
namespace Go.Proofs.YtpidanllncneaaaGreatDoor
open Go.RowKit

/-- A slice that holds terms. -/
def RepL (S : Nat → Prop) (w : World) (la : Option Addr) (el : List (DataW Unit)) : Prop :=
  0 < el.length → ∃ b o, la = some ⟨b, o, none⟩ ∧ S b ∧ ∀ (i : Nat) (e : DataW Unit), el[i]? = some e → ∃ c0 c1 c2 c3 c4, w.cell? ⟨b, o + i * 5, none⟩ = some c0 ∧ w.cell? ⟨b, o + i * 5 + 1, none⟩ = some c1 ∧ w.cell? ⟨b, o + i * 5 + 2, none⟩ = some c2 ∧ w.cell? ⟨b, o + i * 5 + 3, none⟩ = some c3 ∧ w.cell? ⟨b, o + i * 5 + 4, none⟩ = some c4 ∧ RepE S w [c0, c1, c2, c3, c4] e
theorem RepL.same {S S' : Nat → Prop} {w w' : World} {la : Option Addr} {el : List (DataW Unit)} (h : RepL S w la el) (K : Same S w w') (hS : ∀ b, S b → b < w.heap.size → S' b) : RepL S' w' la el := by
  intro h0
  obtain ⟨b, o, e, hb, hx⟩ := h h0
  have hbl : b < w.heap.size := by
    obtain ⟨c0, _, _, _, _, h1, _⟩ := hx 0 el[0] (by simp)
    exact lt_of_cell h1
  refine ⟨b, o, e, hS b hb hbl, fun i x hi => ?_⟩
  obtain ⟨c0, c1, c2, c3, c4, h0, h1, h2, h3, h4, hr⟩ := hx i x hi
  exact ⟨c0, c1, c2, c3, c4, K.cell hb h0, K.cell hb h1, K.cell hb h2, K.cell hb h3, K.cell hb h4, hr.same K hS⟩
theorem repL_one {S S' : Nat → Prop} {w : World} {c0 c1 c2 c3 c4 : Value} {e : DataW Unit} (h : RepE S w [c0, c1, c2, c3, c4] e) (hS : ∀ b, S b → S' b) (hn : S' w.heap.size) :
    RepL S' (w.alloc (.cells #[c0, c1, c2, c3, c4] 75)) (some ⟨w.heap.size, 0, none⟩) [e] := by
  have hb : Below w.heap.size w (w.alloc (.cells #[c0, c1, c2, c3, c4] 75)) := (Below.refl _ _).alloc (Nat.le_refl _) _
  have h2 : RepE S' (w.alloc (.cells #[c0, c1, c2, c3, c4] 75)) [c0, c1, c2, c3, c4] e := h.same (same_below hb) (fun b hb _ => hS b hb)
  obtain ⟨q0, q1, q2, q3, q4, _⟩ := expr_block (heap_alloc_new w (.cells #[c0, c1, c2, c3, c4] 75))
  refine fun _ => ⟨w.heap.size, 0, rfl, hn, fun i x hi => ?_⟩
  cases i with
  | zero =>
    simp at hi
    subst hi
    exact ⟨c0, c1, c2, c3, c4, q0, q1, q2, q3, q4, h2⟩
  | succ i => simp at hi

/-- What a call that reads a list of terms comes to. -/
def PostL (S : Nat → Prop) (p g cap : Nat) (rk : Value) (l : List (ByteArray × ByteArray × Nat)) (k bl dp : Nat) (a0 a1 : Addr) (w : World) (o : Out (List (DataW Unit))) (ev : Ending) (w' : World) : Prop := match o with
  | .ok (el, k') => ∃ la lc, ev = .returned (.slice la el.length lc) ∧ RepL S w' la el ∧ RD w' p g cap rk l k' bl dp ∧ Keeps p w w' ∧ k < k' ∧ k' < l.length
  | .error x => faultAt l p a0 a1 w x ev w'
def ReadsL (f : FuncId) (args : Array Value) (p g cap : Nat) (rk : Value) (l : List (ByteArray × ByteArray × Nat)) (k bl dp : Nat) (a0 a1 : Addr) (o : Out (List (DataW Unit))) : Prop :=
  ∀ w, RD w p g cap rk l k bl dp → TErr p a0 a1 w → RK p rk w → Calls Tryz.prog f args w fun ev w' => PostL (fun b => w.heap.size ≤ b) p g cap rk l k bl dp a0 a1 w o ev w'

def pOne (o : Out (DataW Unit)) : Out (List (DataW Unit)) := match o with
  | .ok (e, k') => .ok ([e], k')
  | .error x => .error x

set_option maxHeartbeats 2000000 in
set_option maxRecDepth 100000 in
theorem tone_any {p g cap : Nat} {rk : Value} {l : List (ByteArray × ByteArray × Nat)} {k bl dp : Nat} {a0 a1 : Addr} {o : Out (DataW Unit)} (h : ReadsE 68 #[.pointer (some ⟨p, 0, none⟩)] p g cap rk l k bl dp a0 a1 o) : ReadsL 36 #[.pointer (some ⟨p, 0, none⟩)] p g cap rk l k bl dp a0 a1 (pOne o) := by
  intro w R E X
  have HC := toHid (h _ R E X)
  clear R
  go_enter Tryz.func36, Tryz.ntmps36
  go_wp2_with fail
  refine HC.out.mono ?_
  intro ev w3 hP
  unfold PostE at hP
  cases o with
  | error y =>
    obtain ⟨t, g1, b, rfl, g2⟩ := hP
    have HF : Hid (faultAt l p a0 a1 w y (.panicked [{ v := .iface 39 (.pointer (some ⟨b, 0, none⟩)), recovered := false }]) w3) := ⟨t, g1, b, rfl, g2⟩
    clear g1 g2 HC
    go_wp2_with fail
    exact ⟨rfl, HF.out⟩
  | ok y =>
    obtain ⟨e, k'⟩ := y
    obtain ⟨c0, c1, c2, c3, c4, rfl, hrep, R3, K3, hk3, hk3l⟩ := hP
    obtain ⟨op, z, sx, pa, pn, pc, la, ln, lc, rfl, rfl, rfl, rfl, rfl⟩ := hrep.form
    have hba : Below w3.heap.size w3 (w3.alloc (.cells #[.string op, .int .i64 z, .string sx, .slice pa pn pc, .slice la ln lc] 75)) := (Below.refl _ _).alloc (Nat.le_refl _) _
    have HR := toHid (And.intro hrep (And.intro R3 (And.intro K3 hba)))
    have hsz := K3.below.size
    have hp3 := lt_of_heap R3.blk
    clear hrep R3 K3 hba HC
    go_wp2_with fail
    go_ret
    obtain ⟨hrep, R3, K3, hba⟩ := HR.out
    exact ⟨_, _, rfl, repL_one hrep (fun b hb => hb) hsz, R3.more hba, K3.trans (Keeps.of hba (by omega)), hk3, hk3l⟩
end Go.Proofs.YtpidanllncneaaaGreatDoor

/- Package tree: lambda. -/
namespace Go.Proofs.YtpidanllncneaaaGreatDoor
open Go.RowKit

def colon : ByteArray := ⟨#[58]⟩
def pLambda (l : List (ByteArray × ByteArray × Nat)) (one : Nat → Out (List (DataW Unit))) (k : Nat) : Out (DataW Unit) := match pUpTo l (pName l) colon l.length [] k with
  | .error x => .error x
  | .ok (names, k1) => match one k1 with
    | .error x => .error x
    | .ok (el, k2) => .ok (mkE kLambda 0 ⟨#[]⟩ names el, k2)

theorem own_form {w : World} {base t : Nat} {va : Value} {names : List ByteArray} (h : w.ownsRow base t 1 va names.length (names.map Value.string)) :
    ∃ pa pc, va = .slice pa names.length pc ∧ (0 < names.length → ∃ b, pa = some ⟨b, 0, none⟩ ∧ base ≤ b ∧ TS w b 0 names) := by
  rcases h.2 with ⟨e, h0⟩ | ⟨g, cap, cur, rfl, hB, hg, _, _, hsz, htk⟩
  · exact ⟨none, 0, by rw [h0]; exact e, fun h1 => by omega⟩
  · refine ⟨some ⟨g, 0, none⟩, cap, rfl, fun _ => ⟨g, rfl, hB, fun j t hj => ?_⟩⟩
    rw [Nat.zero_add, h.cellAt j (by obtain ⟨h1, _⟩ := List.getElem?_eq_some_iff.1 hj; omega)]
    simp [hj]

/-- The world in which lambda begins to read names. -/
def lamStart (w : World) (p : Nat) : World := ((w.alloc (.cells #[.pointer (some ⟨p, 0, none⟩)] 59)).alloc (.cells #[.string ⟨#[]⟩, .int .i64 0, .string ⟨#[]⟩, .slice none 0 0, .slice none 0 0] 75)).alloc (.cells #[.string kLambda, .int .i64 0, .string ⟨#[]⟩, .slice none 0 0, .slice none 0 0] 75)
theorem lamStart_size (w : World) (p : Nat) : (lamStart w p).heap.size = w.heap.size + 3 := by simp [lamStart]
theorem lamStart_below (w : World) (p : Nat) : Below w.heap.size w (lamStart w p) :=
  (((Below.refl _ _).alloc (Nat.le_refl _) _).alloc (by simp) _).alloc (by simp <;> omega) _
theorem lamStart_facts (w : World) (p : Nat) : (lamStart w p).heap[w.heap.size]? = some (.cells #[.pointer (some ⟨p, 0, none⟩)] 59) ∧ (lamStart w p).heap[w.heap.size + 1]? = some (.cells #[.string ⟨#[]⟩, .int .i64 0, .string ⟨#[]⟩, .slice none 0 0, .slice none 0 0] 75) ∧ (lamStart w p).heap[w.heap.size + 2]? = some (.cells #[.string kLambda, .int .i64 0, .string ⟨#[]⟩, .slice none 0 0, .slice none 0 0] 75) := by
  unfold lamStart
  refine ⟨?_, ?_, ?_⟩
  · rw [Below.heap_alloc _ _ _ (by simp <;> omega), Below.heap_alloc _ _ _ (by simp)]
    exact heap_alloc_new _ _
  · rw [Below.heap_alloc _ _ _ (by simp)]
    have := heap_alloc_new (w.alloc (.cells #[.pointer (some ⟨p, 0, none⟩)] 59)) (.cells #[.string ⟨#[]⟩, .int .i64 0, .string ⟨#[]⟩, .slice none 0 0, .slice none 0 0] 75)
    simpa using this
  · have := heap_alloc_new ((w.alloc (.cells #[.pointer (some ⟨p, 0, none⟩)] 59)).alloc (.cells #[.string ⟨#[]⟩, .int .i64 0, .string ⟨#[]⟩, .slice none 0 0, .slice none 0 0] 75)) (.cells #[.string kLambda, .int .i64 0, .string ⟨#[]⟩, .slice none 0 0, .slice none 0 0] 75)
    simpa using this
theorem lamStart_C {w : World} {p g : Nat} (hp : p < w.heap.size) (hg : g < w.heap.size) : LamC p g (w.heap.size + 2) w.heap.size (lamStart w p) [] (lamStart w p) := by
  obtain ⟨h0, h1, h2⟩ := lamStart_facts w p
  have hz := lamStart_size w p
  refine ⟨⟨.slice none 0 0, h2, rfl, .inl ⟨rfl, rfl⟩⟩, ?_, by omega, by omega, by omega, by omega, by omega, by omega, by omega, Nat.le_refl _, fun _ _ _ _ => rfl⟩
  rw [cell_of_row _ _ 0 _ _ _ h0]
  rfl
theorem LamC.step {p g ce cr : Nat} {w0 : World} (s : List ByteArray) (k k' : Nat) (w w' : World) (hk : k ≤ k') (h : LamC p g ce cr w0 s w ∧ s.length ≤ k) (K : Keeps p w w') : LamC p g ce cr w0 s w' ∧ s.length ≤ k' := ⟨h.1.keeps s w w' K, by omega⟩
/-- Behind the names. -/
theorem lam_names {w w1 : World} {p g : Nat} {names : List ByteArray} (hp : p < w.heap.size) (C : LamC p g (w.heap.size + 2) w.heap.size (lamStart w p) names w1) (hb : Below p (lamStart w p) w1) :
    Keeps p w w1 ∧ w1.heap[w.heap.size + 1]? = some (.cells #[.string ⟨#[]⟩, .int .i64 0, .string ⟨#[]⟩, .slice none 0 0, .slice none 0 0] 75) := by
  obtain ⟨h0, h1, h2⟩ := lamStart_facts w p
  have hz := lamStart_size w p
  have hb0 := lamStart_below w p
  refine ⟨⟨(hb0.mono (by omega)).trans hb, fun k hk hl => (C.keep k hk (by omega) (by omega)).trans (hb0.block k hl)⟩, (C.keep _ (by omega) (by omega) (by omega)).trans h1⟩

/-- The last stores, and the return. -/
theorem lam_done {w w1 w2 : World} {p g cap : Nat} {rk : Value} {l : List (ByteArray × ByteArray × Nat)} {k2 bl dp : Nat} {names : List ByteArray} {el : List (DataW Unit)} {pa la : Option Addr} {pc lc : Nat} (hp : p < w.heap.size) (hgl : g < w.heap.size) (K1 : Keeps p w w1) (K2 : Keeps p w1 w2) (R2 : RD w2 p g cap rk l k2 bl dp)
    (hB : w2.heap[w.heap.size + 1]? = some (.cells #[.string ⟨#[]⟩, .int .i64 0, .string ⟨#[]⟩, .slice none 0 0, .slice none 0 0] 75))
    (hN : 0 < names.length → ∃ b, pa = some ⟨b, 0, none⟩ ∧ w.heap.size + 3 ≤ b ∧ TS w1 b 0 names) (hs1 : w.heap.size + 3 ≤ w1.heap.size) (hL : RepL (fun b => w1.heap.size ≤ b) w2 la el) (w3 : World)
    (hw3 : w3 = set5 (w2.setCell ⟨w.heap.size + 2, 4, none⟩ (.slice la el.length lc)) (w.heap.size + 1) (.string kLambda) (.int .i64 0) (.string ⟨#[]⟩) (.slice pa names.length pc) (.slice la el.length lc)) :
    w3.heap[w.heap.size + 1]? = some (.cells #[.string kLambda, .int .i64 0, .string ⟨#[]⟩, .slice pa names.length pc, .slice la el.length lc] 75) ∧ RepE (fun b => w.heap.size ≤ b) w3 [.string kLambda, .int .i64 0, .string ⟨#[]⟩, .slice pa names.length pc, .slice la el.length lc] (mkE kLambda 0 ⟨#[]⟩ names el) ∧ RD w3 p g cap rk l k2 bl dp ∧ Keeps p w w3 := by
  have hs2 := K2.below.size
  have hne : w.heap.size + 1 ≠ w.heap.size + 2 := by omega
  have hother : ∀ j, j ≠ w.heap.size + 1 → j ≠ w.heap.size + 2 → w3.heap[j]? = w2.heap[j]? := fun j h1 h2 => by
    rw [hw3, set5_other h1, heap_set _ _ _ _ _ h2]
  have hsame : Same (fun b => w.heap.size + 3 ≤ b) w2 w3 := fun b hb _ => hother b (by omega) (by omega)
  refine ⟨?_, mkRep (fun h0 => ?_) (fun h0 => ?_) (fun _ h => absurd h (by decide)), ?_, ?_⟩
  · rw [hw3]
    exact set5_block ((heap_set _ _ _ _ _ hne).trans hB) _ _ _ _ _
  · obtain ⟨b, e, hb, ht⟩ := hN h0
    exact ⟨b, 0, e, by omega, (ht.keeps K2 (by omega)).same hsame hb⟩
  · obtain ⟨b, o, e, hb, hx⟩ := hL.same (S' := fun b => w.heap.size + 3 ≤ b) (fun b hb hl => rfl) (fun b hb _ => by omega) h0
    refine ⟨b, o, e, by omega, fun i x hi => ?_⟩
    obtain ⟨c0, c1, c2, c3, c4, h0, h1, h2, h3, h4, hr⟩ := hx i x hi
    exact ⟨c0, c1, c2, c3, c4, hsame.cell hb h0, hsame.cell hb h1, hsame.cell hb h2, hsame.cell hb h3, hsame.cell hb h4, hr.same hsame (fun b hb _ => by omega)⟩
  · rw [hw3]
    exact (R2.other (by omega) (by omega)).set5 (by omega) (by omega) _ _ _ _ _
  · rw [hw3]
    exact ((K1.trans K2).other (by omega) (by omega)).set5 (by omega) (by omega) _ _ _ _ _

set_option maxHeartbeats 2000000 in
set_option maxRecDepth 100000 in
theorem lambda_any {p g cap : Nat} {rk : Value} {l : List (ByteArray × ByteArray × Nat)} {k bl dp : Nat} {a0 a1 : Addr} (hl : l.length ≤ 100000) (hen : Ended l) (hnm : ∀ (k : Nat) (x : ByteArray × ByteArray × Nat), l[k]? = some x → isNameB x = true → k + 1 < l.length) (hk : k < l.length) (one : Nat → Out (List (DataW Unit)))
    (h : ∀ k1, k < k1 → k1 < l.length → ReadsL 36 #[.pointer (some ⟨p, 0, none⟩)] p g cap rk l k1 bl dp a0 a1 (one k1)) : ReadsE 102 #[.pointer (some ⟨p, 0, none⟩)] p g cap rk l k bl dp a0 a1 (pLambda l one k) := by
  intro w R E X
  have hpl := lt_of_heap R.blk
  have hgl := R.gl
  have hb0 := lamStart_below w p
  have HU := toHid (upTo_any 120 #[.pointer (some ⟨w.heap.size + 2, 0, none⟩), .pointer (some ⟨w.heap.size, 0, none⟩)] (fun _ _ => rfl) (fun s k w' => LamC p g (w.heap.size + 2) w.heap.size (lamStart w p) s w' ∧ s.length ≤ k) (fun s k k' w1 w2 h1 h2 h3 => LamC.step s k k' w1 w2 h1 h2 h3) (pName l) 0 (fun s k _ hk => lamName_any _ _ _ hl hnm s k hk) hl hen colon [] k l.length (Nat.zero_le _) hk (by omega) (lamStart w p) (R.more hb0) ⟨lamStart_C hpl hgl, by simp⟩ (E.below (hb0.mono (by omega))))
  have HH := toHid h
  have HE := toHid E
  have HX := toHid X
  have hbp : Below p w (lamStart w p) := hb0.mono (by omega)
  clear h R E X
  unfold pLambda
  cases ho : pUpTo l (pName l) colon l.length [] k with
  | error y =>
    rw [ho] at HU
    show Calls _ _ _ _ fun ev w' => PostE _ p g cap rk l k bl dp a0 a1 w (.error y) ev w'
    clear ho HH HE HX
    go_enter Tryz.func102, Tryz.ntmps102
    go_wp2_with fail
    refine HU.out.mono ?_
    intro ev w1 hP
    obtain ⟨t, g1, b, rfl, g2⟩ := hP
    have HF : Hid (faultAt l p a0 a1 w y (.panicked [{ v := .iface 39 (.pointer (some ⟨b, 0, none⟩)), recovered := false }]) w1) := faultAt.after hbp ⟨t, g1, b, rfl, g2⟩
    clear g1 g2 HU hbp
    go_wp2_with fail
    exact ⟨rfl, HF.out⟩
  | ok y =>
    obtain ⟨names, k1⟩ := y
    rw [ho] at HU
    simp only
    clear ho
    cases ho1 : one k1 with
    | error y =>
      simp only
      show Calls _ _ _ _ fun ev w' => PostE _ p g cap rk l k bl dp a0 a1 w (.error y) ev w'
      have HO1 := toHid ho1
      clear ho1
      go_enter Tryz.func102, Tryz.ntmps102
      go_wp2_with fail
      refine HU.out.mono ?_
      intro ev w1 hP
      obtain ⟨rfl, R1, ⟨C1, _⟩, hb1, hk1, hk1l⟩ := hP
      obtain ⟨K1, hB1⟩ := lam_names hpl C1 hb1
      have cr := C1.r
      have HC := toHid (HH.out k1 hk1 hk1l w1 R1 (HE.out.keeps K1) (HX.out.keeps K1))
      clear R1 C1 hb1 HU hbp
      go_wp2_with fail
      refine HC.out.mono ?_
      intro ev w2 hP
      rw [HO1.out] at hP
      obtain ⟨t, g1, b, rfl, g2⟩ := hP
      have HF : Hid (faultAt l p a0 a1 w y (.panicked [{ v := .iface 39 (.pointer (some ⟨b, 0, none⟩)), recovered := false }]) w2) := faultAt.after K1.below ⟨t, g1, b, rfl, g2⟩
      clear g1 g2 HC K1
      go_wp2_with fail
      exact ⟨rfl, HF.out⟩
    | ok y =>
      obtain ⟨el, k2⟩ := y
      simp only
      show Calls _ _ _ _ fun ev w' => PostE _ p g cap rk l k bl dp a0 a1 w (.ok (mkE kLambda 0 ⟨#[]⟩ names el, k2)) ev w'
      have HO1 := toHid ho1
      clear ho1
      go_enter Tryz.func102, Tryz.ntmps102
      go_wp2_with fail
      refine HU.out.mono ?_
      intro ev w1 hP
      obtain ⟨rfl, R1, ⟨C1, _⟩, hb1, hk1, hk1l⟩ := hP
      obtain ⟨K1, hB1⟩ := lam_names hpl C1 hb1
      have cr := C1.r
      have hs1 := C1.sz
      rw [lamStart_size] at hs1
      obtain ⟨va, hV, hO⟩ := C1.e
      rw [lamStart_size] at hO
      obtain ⟨pa, pc, rfl, hN⟩ := own_form hO
      have HN := toHid hN
      have HC := toHid (HH.out k1 hk1 hk1l w1 R1 (HE.out.keeps K1) (HX.out.keeps K1))
      clear R1 C1 hb1 HU hbp hO hN
      go_wp2_with fail
      refine HC.out.mono ?_
      intro ev w2 hP
      rw [HO1.out] at hP
      obtain ⟨la, lc, rfl, hL, R2, K2, hk2, hk2l⟩ := hP
      have hV2 := (K2.block (w.heap.size + 2) (by omega) (lt_of_heap hV)).trans hV
      have hB2 := (K2.block (w.heap.size + 1) (by omega) (lt_of_heap hB1)).trans hB1
      obtain ⟨t0, t1, t2, t3, t4, tf⟩ := expr_block hB2
      obtain ⟨v0, v1, v2, v3, v4, vf⟩ := expr_block hV2
      have tf0 := tf 0
      have tf1 := tf 1
      have tf2 := tf 2
      have tf3 := tf 3
      have tf4 := tf 4
      have vf4 := vf 4
      have HZ := toHid (lam_done (pa := pa) (pc := pc) (lc := lc) hpl hgl K1 K2 R2 hB2 HN.out hs1 hL _ rfl)
      clear hL R2 K2 K1 hV2 hB2 tf vf hV hB1 HC
      go_wp2_with fail
      obtain ⟨z1, z2, z3, z4⟩ := HZ.out
      refine bodyPost_ret (results_expr _ 2 rfl _ _ (w.heap.size + 1) _ _ _ _ _ rfl z1) rfl ?_
      exact ⟨_, _, _, _, _, rfl, z2, z3, z4, by omega, hk2l⟩
end Go.Proofs.YtpidanllncneaaaGreatDoor

/- Package tree: sides, what it comes to. -/
namespace Go.Proofs.YtpidanllncneaaaGreatDoor
open Go.RowKit

theorem PostE.parts {S : Nat → Prop} {p g cap : Nat} {rk : Value} {l : List (ByteArray × ByteArray × Nat)} {k bl dp : Nat} {a0 a1 : Addr} {w : World} {o : Out (DataW Unit)} {ev : Ending} {w' : World} (h : PostE S p g cap rk l k bl dp a0 a1 w o ev w') :
    (∃ e k' op z sx pa pn pc la ln lc, o = .ok (e, k') ∧ ev = .returned (.agg #[.string op, .int .i64 z, .string sx, .slice pa pn pc, .slice la ln lc]) ∧ RepE S w' [.string op, .int .i64 z, .string sx, .slice pa pn pc, .slice la ln lc] e ∧ RD w' p g cap rk l k' bl dp ∧ Keeps p w w' ∧ k < k' ∧ k' < l.length) ∨
    (∃ y b, o = .error y ∧ ev = .panicked [{ v := .iface 39 (.pointer (some ⟨b, 0, none⟩)), recovered := false }] ∧ faultAt l p a0 a1 w y (.panicked [{ v := .iface 39 (.pointer (some ⟨b, 0, none⟩)), recovered := false }]) w') := by
  unfold PostE at h
  cases o with
  | error y =>
    obtain ⟨t, g1, b, rfl, g2⟩ := h
    exact .inr ⟨y, b, rfl, rfl, t, g1, b, rfl, g2⟩
  | ok y =>
    obtain ⟨e, k'⟩ := y
    obtain ⟨c0, c1, c2, c3, c4, rfl, hrep, h1, h2, h3, h4⟩ := h
    obtain ⟨op, z, sx, pa, pn, pc, la, ln, lc, rfl, rfl, rfl, rfl, rfl⟩ := hrep.form
    exact .inl ⟨e, k', op, z, sx, pa, pn, pc, la, ln, lc, rfl, rfl, hrep, h1, h2, h3, h4⟩

theorem rep_two {S S' : Nat → Prop} {w : World} {op : ByteArray} {c0 c1 c2 c3 c4 d0 d1 d2 d3 d4 : Value} {e e' : DataW Unit} (h : RepE S w [c0, c1, c2, c3, c4] e) (h' : RepE S w [d0, d1, d2, d3, d4] e') (hS : ∀ b, S b → S' b) (hn : S' w.heap.size) :
    RepE S' (w.alloc (.cells #[c0, c1, c2, c3, c4, d0, d1, d2, d3, d4] 75)) [.string op, .int .i64 0, .string ⟨#[]⟩, .slice none 0 0, .slice (some ⟨w.heap.size, 0, none⟩) 2 2] (mkE op 0 ⟨#[]⟩ [] [e, e']) := by
  have hb : Below w.heap.size w (w.alloc (.cells #[c0, c1, c2, c3, c4, d0, d1, d2, d3, d4] 75)) := (Below.refl _ _).alloc (Nat.le_refl _) _
  have h2 := h.same (S' := S') (same_below hb) (fun b hb _ => hS b hb)
  have h2' := h'.same (S' := S') (same_below hb) (fun b hb _ => hS b hb)
  have hB := heap_alloc_new w (.cells #[c0, c1, c2, c3, c4, d0, d1, d2, d3, d4] 75)
  have hc : ∀ j v, #[c0, c1, c2, c3, c4, d0, d1, d2, d3, d4][j]? = some v → (w.alloc (.cells #[c0, c1, c2, c3, c4, d0, d1, d2, d3, d4] 75)).cell? ⟨w.heap.size, j, none⟩ = some v := fun j v hj => by
    rw [cell_of_row _ _ j _ _ _ hB]
    exact hj
  refine mkRep (pl := []) (el := [e, e']) (by simp) (fun _ => ⟨w.heap.size, 0, rfl, hn, fun i x hi => ?_⟩) (fun _ _ => ⟨w.heap.size, _, rfl, hn, hB, rfl, rfl⟩)
  match i, hi with
  | 0, hi =>
    simp at hi
    subst hi
    exact ⟨c0, c1, c2, c3, c4, hc 0 _ rfl, hc 1 _ rfl, hc 2 _ rfl, hc 3 _ rfl, hc 4 _ rfl, h2⟩
  | 1, hi =>
    simp at hi
    subst hi
    exact ⟨d0, d1, d2, d3, d4, hc 5 _ rfl, hc 6 _ rfl, hc 7 _ rfl, hc 8 _ rfl, hc 9 _ rfl, h2'⟩
  | i + 2, hi => simp at hi

/-- Further sides. -/
def pSidesOn (l : List (ByteArray × ByteArray × Nat)) (rank : Nat) (sub : Nat → Out (DataW Unit)) : Nat → DataW Unit → Nat → Out (DataW Unit)
  | 0, e, k => .ok (e, k)
  | f + 1, e, k => match l[k]? with
    | none => .ok (e, k)
    | some x => bif markB x (rankOps rank) then (match sub (k + 1) with
      | .error y => .error y
      | .ok (e2, k2) => bif rank == 4 then .ok (mkE x.2.1 0 ⟨#[]⟩ [] [e, e2], k2) else pSidesOn l rank sub f (mkE x.2.1 0 ⟨#[]⟩ [] [e, e2]) k2) else .ok (e, k)
def pSides (l : List (ByteArray × ByteArray × Nat)) (rank : Nat) (sub : Nat → Out (DataW Unit)) (k : Nat) : Out (DataW Unit) := match sub k with
  | .error y => .error y
  | .ok (e, k1) => pSidesOn l rank sub (l.length + 1) e k1
theorem sides_stop {l : List (ByteArray × ByteArray × Nat)} {rank : Nat} {sub : Nat → Out (DataW Unit)} {f k : Nat} {e : DataW Unit} {x : ByteArray × ByteArray × Nat} (hx : l[k]? = some x) (hm : markB x (rankOps rank) = false) : pSidesOn l rank sub (f + 1) e k = .ok (e, k) := by
  simp [pSidesOn, hx, hm]
theorem sides_err {l : List (ByteArray × ByteArray × Nat)} {rank : Nat} {sub : Nat → Out (DataW Unit)} {f k : Nat} {e : DataW Unit} {x : ByteArray × ByteArray × Nat} {y : Nat × Bool} (hx : l[k]? = some x) (hm : markB x (rankOps rank) = true) (hs : sub (k + 1) = .error y) : pSidesOn l rank sub (f + 1) e k = .error y := by
  simp [pSidesOn, hx, hm, hs]
theorem sides_go {l : List (ByteArray × ByteArray × Nat)} {rank : Nat} {sub : Nat → Out (DataW Unit)} {f k k2 : Nat} {e e2 : DataW Unit} {x : ByteArray × ByteArray × Nat} (hx : l[k]? = some x) (hm : markB x (rankOps rank) = true) (hs : sub (k + 1) = .ok (e2, k2)) : pSidesOn l rank sub (f + 1) e k = bif rank == 4 then .ok (mkE x.2.1 0 ⟨#[]⟩ [] [e, e2], k2) else pSidesOn l rank sub f (mkE x.2.1 0 ⟨#[]⟩ [] [e, e2]) k2 := by
  simp [pSidesOn, hx, hm, hs]
end Go.Proofs.YtpidanllncneaaaGreatDoor
