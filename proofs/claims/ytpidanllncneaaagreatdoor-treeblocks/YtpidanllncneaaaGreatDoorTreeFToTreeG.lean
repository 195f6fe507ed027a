/- Package tree: terms of one part; what stands behind not and a minus. -/
import Derived.Test.YtpidanllncneaaaGreatDoorTreeE
import Derived.Deep.Slices
import Derived.Deep.AppendLies
import Derived.Deep.RegionLaw
namespace Go.Proofs.YtpidanllncneaaaGreatDoor
open Go.RowKit

theorem mkRep {S : Nat → Prop} {w : World} {op s : ByteArray} {z : Int} {pl : List ByteArray} {el : List (DataW Unit)} {pa la : Option Addr} {pc lc : Nat} (hp : 0 < pl.length → ∃ b o, pa = some ⟨b, o, none⟩ ∧ S b ∧ TS w b o pl)
    (hl : 0 < el.length → ∃ b o, la = some ⟨b, o, none⟩ ∧ S b ∧ ∀ (i : Nat) (e : DataW Unit), el[i]? = some e → ∃ c0 c1 c2 c3 c4, w.cell? ⟨b, o + i * 5, none⟩ = some c0 ∧ w.cell? ⟨b, o + i * 5 + 1, none⟩ = some c1 ∧ w.cell? ⟨b, o + i * 5 + 2, none⟩ = some c2 ∧ w.cell? ⟨b, o + i * 5 + 3, none⟩ = some c3 ∧ w.cell? ⟨b, o + i * 5 + 4, none⟩ = some c4 ∧ RepE S w [c0, c1, c2, c3, c4] e) (hix : IxRow S w op la lc el.length) :
    RepE S w [.string op, .int .i64 z, .string s, .slice pa pl.length pc, .slice la el.length lc] (mkE op z s pl el) := by
  by_cases h0 : 0 < el.length
  · obtain ⟨b, o, e, hb, hx⟩ := hl h0
    obtain ⟨n, hn⟩ := Go.Deep.fuel_lt (n := el.length) (q := fun i m => ∀ e, el[i]? = some e → ∃ c0 c1 c2 c3 c4, w.cell? ⟨b, o + i * 5, none⟩ = some c0 ∧ w.cell? ⟨b, o + i * 5 + 1, none⟩ = some c1 ∧ w.cell? ⟨b, o + i * 5 + 2, none⟩ = some c2 ∧ w.cell? ⟨b, o + i * 5 + 3, none⟩ = some c3 ∧ w.cell? ⟨b, o + i * 5 + 4, none⟩ = some c4 ∧ repE S w m [c0, c1, c2, c3, c4] e)
      (fun i x y hxy h e he => by
        obtain ⟨c0, c1, c2, c3, c4, h0, h1, h2, h3, h4, hr⟩ := h e he
        exact ⟨c0, c1, c2, c3, c4, h0, h1, h2, h3, h4, repE_more x y _ _ hxy hr⟩)
      (fun i hi => by
        obtain ⟨c0, c1, c2, c3, c4, h0, h1, h2, h3, h4, n, hr⟩ := hx i el[i] (by simp [hi])
        refine ⟨n, fun e he => ?_⟩
        have : el[i] = e := by simpa [hi] using he
        subst this
        exact ⟨c0, c1, c2, c3, c4, h0, h1, h2, h3, h4, hr⟩)
    exact ⟨n + 1, op, s, z, pl, el, pa, la, pc, lc, rfl, rfl, hp, fun _ => ⟨b, o, e, hb, fun i x hi => hn i (List.getElem?_eq_some_iff.1 hi).1 x hi⟩, hix⟩
  · exact ⟨1, op, s, z, pl, el, pa, la, pc, lc, rfl, rfl, hp, fun h => absurd h h0, hix⟩

/-- A term of one part, which lies in a new row. -/
theorem rep_one {S S' : Nat → Prop} {w : World} {op : ByteArray} {c0 c1 c2 c3 c4 : Value} {e : DataW Unit} (h : RepE S w [c0, c1, c2, c3, c4] e) (hS : ∀ b, S b → S' b) (hn : S' w.heap.size) :
    RepE S' (w.alloc (.cells #[c0, c1, c2, c3, c4] 75)) [.string op, .int .i64 0, .string ⟨#[]⟩, .slice none 0 0, .slice (some ⟨w.heap.size, 0, none⟩) 1 1] (mkE op 0 ⟨#[]⟩ [] [e]) := by
  have hb : Below w.heap.size w (w.alloc (.cells #[c0, c1, c2, c3, c4] 75)) := (Below.refl _ _).alloc (Nat.le_refl _) _
  have h2 : RepE S' (w.alloc (.cells #[c0, c1, c2, c3, c4] 75)) [c0, c1, c2, c3, c4] e := h.same (same_below hb) (fun b hb _ => hS b hb)
  obtain ⟨q0, q1, q2, q3, q4, _⟩ := expr_block (heap_alloc_new w (.cells #[c0, c1, c2, c3, c4] 75))
  refine mkRep (pl := []) (el := [e]) (by simp) (fun _ => ⟨w.heap.size, 0, rfl, hn, fun i x hi => ?_⟩) (fun _ _ => ⟨w.heap.size, _, rfl, hn, heap_alloc_new w _, rfl, rfl⟩)
  cases i with
  | zero =>
    simp at hi
    subst hi
    exact ⟨c0, c1, c2, c3, c4, q0, q1, q2, q3, q4, h2⟩
  | succ i => simp at hi

def pOp (op : ByteArray) (o : Out (DataW Unit)) : Out (DataW Unit) := match o with
  | .error x => .error x
  | .ok (e, k') => .ok (mkE op 0 ⟨#[]⟩ [] [e], k')
/-- What the closures of ranked have captured. -/
def Capt (p cr ck rank : Nat) (w : World) : Prop := w.cell? ⟨cr, 0, none⟩ = some (.pointer (some ⟨p, 0, none⟩)) ∧ w.cell? ⟨ck, 0, none⟩ = some (.int .i64 (rank : Int)) ∧ cr ≠ p ∧ ck ≠ p
theorem Capt.keeps {p cr ck rank : Nat} : ∀ w w', Capt p cr ck rank w → Keeps p w w' → Capt p cr ck rank w' := fun _ _ h K => ⟨K.cell h.2.2.1 h.1, K.cell h.2.2.2 h.2.1, h.2.2.1, h.2.2.2⟩

set_option maxHeartbeats 2000000 in
set_option maxRecDepth 100000 in
theorem rankedNot_any {p g cap : Nat} {rk : Value} {l : List (ByteArray × ByteArray × Nat)} {k bl dp : Nat} {a0 a1 : Addr} {o : Out (DataW Unit)} (cr ck rank : Nat) (h : ReadsE 91 #[.pointer (some ⟨p, 0, none⟩), .int .i64 (rank : Int)] p g cap rk l k bl dp a0 a1 o) : ∀ w, RD w p g cap rk l k bl dp → TErr p a0 a1 w → RK p rk w → Capt p cr ck rank w → Calls Tryz.prog 103 #[.pointer (some ⟨cr, 0, none⟩), .pointer (some ⟨ck, 0, none⟩)] w fun ev w' => PostE (fun b => w.heap.size ≤ b) p g cap rk l k bl dp a0 a1 w (pOp kNot o) ev w' := by
  intro w R E X C
  have hpl := lt_of_heap R.blk
  have hgl := R.gl
  have hb0 : Below w.heap.size w (w.alloc (.cells #[.string ⟨#[]⟩, .int .i64 0, .string ⟨#[]⟩, .slice none 0 0, .slice none 0 0] 75)) := (Below.refl _ _).alloc (Nat.le_refl _) _
  have K1 : Keeps p w (w.alloc (.cells #[.string ⟨#[]⟩, .int .i64 0, .string ⟨#[]⟩, .slice none 0 0, .slice none 0 0] 75)) := Keeps.of hb0 (by omega)
  have R1 := R.more hb0
  have hB1 := heap_alloc_new w (.cells #[.string ⟨#[]⟩, .int .i64 0, .string ⟨#[]⟩, .slice none 0 0, .slice none 0 0] 75)
  have hsz : (w.alloc (.cells #[.string ⟨#[]⟩, .int .i64 0, .string ⟨#[]⟩, .slice none 0 0, .slice none 0 0] 75)).heap.size = w.heap.size + 1 := by simp
  have HC := toHid (h _ R1 (E.keeps K1) (X.keeps K1))
  obtain ⟨d0, d1, _, _⟩ := C
  have l0 := lt_of_cell d0
  have l1 := lt_of_cell d1
  clear R
  cases o with
  | error y =>
    show Calls _ _ _ _ fun ev w' => PostE _ p g cap rk l k bl dp a0 a1 w (.error y) ev w'
    go_enter Tryz.func103, Tryz.ntmps103
    go_wp2_with fail
    refine HC.out.mono ?_
    intro ev w3 hP
    unfold PostE at hP
    obtain ⟨t, g1, b, rfl, g2⟩ := hP
    have HF : Hid (faultAt l p a0 a1 w y (.panicked [{ v := .iface 39 (.pointer (some ⟨b, 0, none⟩)), recovered := false }]) w3) := faultAt.after K1.below ⟨t, g1, b, rfl, g2⟩
    clear g1 g2 R1 K1 HC
    go_wp2_with fail
    exact ⟨rfl, HF.out⟩
  | ok y =>
    obtain ⟨e, k'⟩ := y
    show Calls _ _ _ _ fun ev w' => PostE _ p g cap rk l k bl dp a0 a1 w (.ok (mkE kNot 0 ⟨#[]⟩ [] [e], k')) ev w'
    go_enter Tryz.func103, Tryz.ntmps103
    go_wp2_with fail
    refine HC.out.mono ?_
    intro ev w3 hP
    unfold PostE at hP
    rw [hsz] at hP
    obtain ⟨c0, c1, c2, c3, c4, rfl, hrep, R3, K3, hk3, hk3l⟩ := hP
    obtain ⟨op, z, sx, pa, pn, pc, la, ln, lc, rfl, rfl, rfl, rfl, rfl⟩ := hrep.form
    have hB3 := (K3.block w.heap.size (by omega) (lt_of_heap hB1)).trans hB1
    have hs3 := lt_of_heap hB3
    have hp3 := lt_of_heap R3.blk
    have hba : Below w3.heap.size w3 (w3.alloc (.cells #[.string op, .int .i64 z, .string sx, .slice pa pn pc, .slice la ln lc] 75)) := (Below.refl _ _).alloc (Nat.le_refl _) _
    obtain ⟨t0, t1, t2, t3, t4, tf⟩ := expr_block hB3
    have tf0 := tf 0
    have tf1 := tf 1
    have tf2 := tf 2
    have tf3 := tf 3
    have tf4 := tf 4
    have H4 := toHid (And.intro hrep (And.intro R3 (And.intro (K1.trans K3) hB3)))
    clear R1 K1 R3 K3 hrep hB1 hB3 tf HC hba
    go_wp2_with fail
    obtain ⟨hrep, R4, K4, hB4⟩ := H4.out
    obtain ⟨f1, f2, f3, f4⟩ := laid5 hrep R4 K4 hB4 (by omega) (by omega) (by omega) (by omega) (.string ⟨#[110, 111, 116]⟩) (.int .i64 0) (.string ⟨#[]⟩) (.slice none 0 0) (.slice (some ⟨w3.heap.size, 0, none⟩) 1 1)
    have hz := set5_size w3 w.heap.size (.string ⟨#[110, 111, 116]⟩) (.int .i64 0) (.string ⟨#[]⟩) (.slice none 0 0) (.slice (some ⟨w3.heap.size, 0, none⟩) 1 1)
    have hr := rep_one (op := kNot) (S' := fun b => w.heap.size < b) f1 (fun b hb => by omega) (by omega)
    rw [hz] at hr
    have hbb : Below (set5 w3 w.heap.size (.string ⟨#[110, 111, 116]⟩) (.int .i64 0) (.string ⟨#[]⟩) (.slice none 0 0) (.slice (some ⟨w3.heap.size, 0, none⟩) 1 1)).heap.size (set5 w3 w.heap.size (.string ⟨#[110, 111, 116]⟩) (.int .i64 0) (.string ⟨#[]⟩) (.slice none 0 0) (.slice (some ⟨w3.heap.size, 0, none⟩) 1 1)) ((set5 w3 w.heap.size (.string ⟨#[110, 111, 116]⟩) (.int .i64 0) (.string ⟨#[]⟩) (.slice none 0 0) (.slice (some ⟨w3.heap.size, 0, none⟩) 1 1)).alloc (.cells #[.string op, .int .i64 z, .string sx, .slice pa pn pc, .slice la ln lc] 75)) := (Below.refl _ _).alloc (Nat.le_refl _) _
    refine bodyPost_ret (results_expr _ 2 rfl _ _ w.heap.size _ _ _ _ _ rfl ((hbb.block _ (lt_of_heap f4)).trans f4)) rfl ?_
    exact ⟨_, _, _, _, _, rfl, hr.same (fun _ _ _ => rfl) (fun b h _ => by omega), f2.more hbb, f3.trans (Keeps.of hbb (by have := lt_of_heap f2.blk; omega)), by omega, hk3l⟩
set_option maxHeartbeats 2000000 in
set_option maxRecDepth 100000 in
theorem rankedNeg_any {p g cap : Nat} {rk : Value} {l : List (ByteArray × ByteArray × Nat)} {k bl dp : Nat} {a0 a1 : Addr} {o : Out (DataW Unit)} (cr ck rank : Nat) (h : ReadsE 91 #[.pointer (some ⟨p, 0, none⟩), .int .i64 (rank : Int)] p g cap rk l k bl dp a0 a1 o) : ∀ w, RD w p g cap rk l k bl dp → TErr p a0 a1 w → RK p rk w → Capt p cr ck rank w → Calls Tryz.prog 104 #[.pointer (some ⟨cr, 0, none⟩), .pointer (some ⟨ck, 0, none⟩)] w fun ev w' => PostE (fun b => w.heap.size ≤ b) p g cap rk l k bl dp a0 a1 w (pOp kNeg o) ev w' := by
  intro w R E X C
  have hpl := lt_of_heap R.blk
  have hgl := R.gl
  have hb0 : Below w.heap.size w (w.alloc (.cells #[.string ⟨#[]⟩, .int .i64 0, .string ⟨#[]⟩, .slice none 0 0, .slice none 0 0] 75)) := (Below.refl _ _).alloc (Nat.le_refl _) _
  have K1 : Keeps p w (w.alloc (.cells #[.string ⟨#[]⟩, .int .i64 0, .string ⟨#[]⟩, .slice none 0 0, .slice none 0 0] 75)) := Keeps.of hb0 (by omega)
  have R1 := R.more hb0
  have hB1 := heap_alloc_new w (.cells #[.string ⟨#[]⟩, .int .i64 0, .string ⟨#[]⟩, .slice none 0 0, .slice none 0 0] 75)
  have hsz : (w.alloc (.cells #[.string ⟨#[]⟩, .int .i64 0, .string ⟨#[]⟩, .slice none 0 0, .slice none 0 0] 75)).heap.size = w.heap.size + 1 := by simp
  have HC := toHid (h _ R1 (E.keeps K1) (X.keeps K1))
  obtain ⟨d0, d1, _, _⟩ := C
  have l0 := lt_of_cell d0
  have l1 := lt_of_cell d1
  clear R
  cases o with
  | error y =>
    show Calls _ _ _ _ fun ev w' => PostE _ p g cap rk l k bl dp a0 a1 w (.error y) ev w'
    go_enter Tryz.func104, Tryz.ntmps104
    go_wp2_with fail
    refine HC.out.mono ?_
    intro ev w3 hP
    unfold PostE at hP
    obtain ⟨t, g1, b, rfl, g2⟩ := hP
    have HF : Hid (faultAt l p a0 a1 w y (.panicked [{ v := .iface 39 (.pointer (some ⟨b, 0, none⟩)), recovered := false }]) w3) := faultAt.after K1.below ⟨t, g1, b, rfl, g2⟩
    clear g1 g2 R1 K1 HC
    go_wp2_with fail
    exact ⟨rfl, HF.out⟩
  | ok y =>
    obtain ⟨e, k'⟩ := y
    show Calls _ _ _ _ fun ev w' => PostE _ p g cap rk l k bl dp a0 a1 w (.ok (mkE kNeg 0 ⟨#[]⟩ [] [e], k')) ev w'
    go_enter Tryz.func104, Tryz.ntmps104
    go_wp2_with fail
    refine HC.out.mono ?_
    intro ev w3 hP
    unfold PostE at hP
    rw [hsz] at hP
    obtain ⟨c0, c1, c2, c3, c4, rfl, hrep, R3, K3, hk3, hk3l⟩ := hP
    obtain ⟨op, z, sx, pa, pn, pc, la, ln, lc, rfl, rfl, rfl, rfl, rfl⟩ := hrep.form
    have hB3 := (K3.block w.heap.size (by omega) (lt_of_heap hB1)).trans hB1
    have hs3 := lt_of_heap hB3
    have hp3 := lt_of_heap R3.blk
    have hba : Below w3.heap.size w3 (w3.alloc (.cells #[.string op, .int .i64 z, .string sx, .slice pa pn pc, .slice la ln lc] 75)) := (Below.refl _ _).alloc (Nat.le_refl _) _
    obtain ⟨t0, t1, t2, t3, t4, tf⟩ := expr_block hB3
    have tf0 := tf 0
    have tf1 := tf 1
    have tf2 := tf 2
    have tf3 := tf 3
    have tf4 := tf 4
    have H4 := toHid (And.intro hrep (And.intro R3 (And.intro (K1.trans K3) hB3)))
    clear R1 K1 R3 K3 hrep hB1 hB3 tf HC hba
    go_wp2_with fail
    obtain ⟨hrep, R4, K4, hB4⟩ := H4.out
    obtain ⟨f1, f2, f3, f4⟩ := laid5 hrep R4 K4 hB4 (by omega) (by omega) (by omega) (by omega) (.string ⟨#[110, 101, 103]⟩) (.int .i64 0) (.string ⟨#[]⟩) (.slice none 0 0) (.slice (some ⟨w3.heap.size, 0, none⟩) 1 1)
    have hz := set5_size w3 w.heap.size (.string ⟨#[110, 101, 103]⟩) (.int .i64 0) (.string ⟨#[]⟩) (.slice none 0 0) (.slice (some ⟨w3.heap.size, 0, none⟩) 1 1)
    have hr := rep_one (op := kNeg) (S' := fun b => w.heap.size < b) f1 (fun b hb => by omega) (by omega)
    rw [hz] at hr
    have hbb : Below (set5 w3 w.heap.size (.string ⟨#[110, 101, 103]⟩) (.int .i64 0) (.string ⟨#[]⟩) (.slice none 0 0) (.slice (some ⟨w3.heap.size, 0, none⟩) 1 1)).heap.size (set5 w3 w.heap.size (.string ⟨#[110, 101, 103]⟩) (.int .i64 0) (.string ⟨#[]⟩) (.slice none 0 0) (.slice (some ⟨w3.heap.size, 0, none⟩) 1 1)) ((set5 w3 w.heap.size (.string ⟨#[110, 101, 103]⟩) (.int .i64 0) (.string ⟨#[]⟩) (.slice none 0 0) (.slice (some ⟨w3.heap.size, 0, none⟩) 1 1)).alloc (.cells #[.string op, .int .i64 z, .string sx, .slice pa pn pc, .slice la ln lc] 75)) := (Below.refl _ _).alloc (Nat.le_refl _) _
    refine bodyPost_ret (results_expr _ 2 rfl _ _ w.heap.size _ _ _ _ _ rfl ((hbb.block _ (lt_of_heap f4)).trans f4)) rfl ?_
    exact ⟨_, _, _, _, _, rfl, hr.same (fun _ _ _ => rfl) (fun b h _ => by omega), f2.more hbb, f3.trans (Keeps.of hbb (by have := lt_of_heap f2.blk; omega)), by omega, hk3l⟩
end Go.Proofs.YtpidanllncneaaaGreatDoor

/- Package tree: names; lambda's closure. -/
namespace Go.Proofs.YtpidanllncneaaaGreatDoor
open Go.RowKit

set_option maxHeartbeats 1000000 in
/-- need, where another kind stands. -/
theorem need_fail {w : World} {p g cap : Nat} {rk : Value} {l : List (ByteArray × ByteArray × Nat)} {k bl dp : Nat} {a0 a1 : Addr} (R : RD w p g cap rk l k bl dp) (E : TErr p a0 a1 w) {x : ByteArray × ByteArray × Nat} (hx : l[k]? = some x) (kd : ByteArray) (he : (x.1.toList == kd.toList) = false) :
    Calls Tryz.prog 42 #[.pointer (some ⟨p, 0, none⟩), .string kd] w fun ev w' => faultAt l p a0 a1 w (k, false) ev w' := by
  have hpl := lt_of_heap R.blk
  have hb0 : Below w.heap.size w (w.alloc (.cells #[.string ⟨#[]⟩, .string ⟨#[]⟩, .int .i64 0] 61)) := (Below.refl _ _).alloc (Nat.le_refl _) _
  have R0 := R.more hb0
  obtain ⟨ka, ta, at_⟩ := x
  have hne : (ka.toList != kd.toList) = true := by simp only at he; simp [bne, he]
  have F0 := field0 (.string ka) (.string ta) (.int .i64 (at_ : Int))
  go_enter Tryz.func42, Tryz.ntmps42
  go_wp2_with fail
  refine (tnext_any R0 hx).mono ?_
  rintro ev w1 ⟨rfl, hb1⟩
  have R1 := R0.more hb1
  have hb1w := hb0.trans (hb1.mono hb0.size)
  have E1 := E.below (hb1w.mono (by omega))
  have hg0 := E1.g0
  clear R R0
  go_wp2_with fail
  refine (tthrow_any R1 hx a0).mono ?_
  rintro ev w2 ⟨b, rfl, hbw, d0, d1⟩
  have HF : Hid (faultAt l p a0 a1 w (k, false) (.panicked [{ v := .iface 39 (.pointer (some ⟨b, 0, none⟩)), recovered := false }]) w2) := ⟨_, hx, b, rfl, (hb1w.mono (by omega)).trans hbw, d0, d1⟩
  clear R1 hbw d0 d1 hx
  go_wp2_with fail
  exact ⟨rfl, HF.out⟩

theorem nameBytes : (⟨#[110, 97, 109, 101]⟩ : ByteArray).toList = [110, 97, 109, 101] := by kernel_rfl
def isNameB (x : ByteArray × ByteArray × Nat) : Bool := x.1.toList == [110, 97, 109, 101]
theorem name_ok {w : World} {p g cap : Nat} {rk : Value} {l : List (ByteArray × ByteArray × Nat)} {k bl dp : Nat} (R : RD w p g cap rk l k bl dp) {x : ByteArray × ByteArray × Nat} (hx : l[k]? = some x) (hl : l.length ≤ 100000) (he : isNameB x = true) :
    Calls Tryz.prog 71 #[.pointer (some ⟨p, 0, none⟩)] w fun ev w' => ev = .returned (.string x.2.1) ∧ RD w' p g cap rk l (k + 1) bl dp ∧ Keeps p w w' := by
  have F1 := field1 (.string x.1) (.string x.2.1) (.int .i64 (x.2.2 : Int))
  go_enter Tryz.func71, Tryz.ntmps71
  go_wp2_with fail
  refine (need_any R hx hl ⟨#[110, 97, 109, 101]⟩ (by rw [nameBytes]; exact he)).mono ?_
  rintro ev w1 ⟨rfl, R1, K1⟩
  clear R
  go_wp2_with fail
  go_ret
  exact ⟨rfl, R1, K1⟩
theorem name_fail {w : World} {p g cap : Nat} {rk : Value} {l : List (ByteArray × ByteArray × Nat)} {k bl dp : Nat} {a0 a1 : Addr} (R : RD w p g cap rk l k bl dp) (E : TErr p a0 a1 w) {x : ByteArray × ByteArray × Nat} (hx : l[k]? = some x) (he : isNameB x = false) :
    Calls Tryz.prog 71 #[.pointer (some ⟨p, 0, none⟩)] w fun ev w' => faultAt l p a0 a1 w (k, false) ev w' := by
  go_enter Tryz.func71, Tryz.ntmps71
  go_wp2_with fail
  refine (need_fail R E hx ⟨#[110, 97, 109, 101]⟩ (by rw [nameBytes]; exact he)).mono ?_
  rintro ev w1 ⟨t, g1, b, rfl, g2⟩
  have HF : Hid (faultAt l p a0 a1 w (k, false) (.panicked [{ v := .iface 39 (.pointer (some ⟨b, 0, none⟩)), recovered := false }]) w1) := ⟨t, g1, b, rfl, g2⟩
  clear R E g1 g2
  go_wp2_with fail
  exact ⟨rfl, HF.out⟩

theorem infoStr : (Tryz.prog.info? 9).map (fun i => (i.zero, i.size, i.bytes)) = some (some (.string ⟨#[]⟩), 1, 16) := by kernel_rfl


theorem rname_any {w : World} {p g cap : Nat} {rk : Value} {l : List (ByteArray × ByteArray × Nat)} {k bl dp : Nat} {a0 a1 : Addr} (R : RD w p g cap rk l k bl dp) (E : TErr p a0 a1 w) {x : ByteArray × ByteArray × Nat} (hx : l[k]? = some x) (hl : l.length ≤ 100000) :
    Calls Tryz.prog 71 #[.pointer (some ⟨p, 0, none⟩)] w fun ev w' => (isNameB x = true ∧ ev = .returned (.string x.2.1) ∧ RD w' p g cap rk l (k + 1) bl dp ∧ Keeps p w w') ∨ (isNameB x = false ∧ faultAt l p a0 a1 w (k, false) ev w') := by
  cases hm : isNameB x
  · exact (name_fail R E hx hm).mono fun _ _ h => .inr ⟨rfl, h⟩
  · exact (name_ok R hx hl hm).mono fun _ _ h => .inl ⟨rfl, h⟩

/-- What lambda's closure has captured: the term whose names it reads, and the reader. -/
structure LamC (p g ce cr : Nat) (w0 : World) (names : List ByteArray) (w : World) : Prop where
  e : ∃ va, w.heap[ce]? = some (.cells #[.string kLambda, .int .i64 0, .string ⟨#[]⟩, va, .slice none 0 0] 75) ∧ w.ownsRow w0.heap.size 9 1 va names.length (names.map Value.string)
  r : w.cell? ⟨cr, 0, none⟩ = some (.pointer (some ⟨p, 0, none⟩))
  pe : p < ce
  pr : p < cr
  nec : ce ≠ cr
  neg : ce ≠ g
  le : ce < w0.heap.size
  lr : cr < w0.heap.size
  lg : g < w0.heap.size
  sz : w0.heap.size ≤ w.heap.size
  keep : ∀ k, k ≠ p → k ≠ ce → k < w0.heap.size → w.heap[k]? = w0.heap[k]?
theorem LamC.keeps {p g ce cr : Nat} {w0 : World} (s : List ByteArray) (w w' : World) (h : LamC p g ce cr w0 s w) (K : Keeps p w w') : LamC p g ce cr w0 s w' := by
  have hpe := h.pe
  have hpr := h.pr
  have hle := h.le
  obtain ⟨va, h1, h2⟩ := h.e
  refine ⟨⟨va, (K.block ce (by omega) (lt_of_heap h1)).trans h1, ownsRow_far' h2 (fun k hk => K.block k (by have := own_ge h2 k hk; omega) ?_)⟩, K.cell (by omega) h.r, h.pe, h.pr, h.nec, h.neg, h.le, h.lr, h.lg, Nat.le_trans h.sz K.below.size, fun k h3 h4 h5 => (K.block k h3 (Nat.lt_of_lt_of_le h5 h.sz)).trans (h.keep k h3 h4 h5)⟩
  rcases h2.2 with ⟨e, _⟩ | ⟨g, c, cur, e, _, hg, _⟩
  · rw [e] at hk
    simp [Value.ownBlock] at hk
  · rw [e] at hk
    simp [Value.ownBlock] at hk
    subst hk
    exact lt_of_heap hg

def pName (l : List (ByteArray × ByteArray × Nat)) (s : List ByteArray) (k : Nat) : Out (List ByteArray) := match l[k]? with
  | some x => bif isNameB x then .ok (s ++ [x.2.1], k + 1) else .error (k, false)
  | none => .error (k, false)

theorem set3_block {w : World} {b : Nat} {u0 u1 u2 u3 u4 : Value} (h : w.heap[b]? = some (.cells #[u0, u1, u2, u3, u4] 75)) (v : Value) : (w.setCell ⟨b, 3, none⟩ v).heap[b]? = some (.cells #[u0, u1, u2, v, u4] 75) := by
  rw [heap_set_same h]
  rfl
/-- Behind lambda's closure. -/
theorem lam_after {p g cap : Nat} {rk : Value} {l : List (ByteArray × ByteArray × Nat)} {bl dp ce cr : Nat} {w0 w w1 w2 : World} {s : List ByteArray} {k : Nat} {x : ByteArray} {va : Value} {gn capn : Nat}
    (C : LamC p g ce cr w0 s w) (h1 : w.heap[ce]? = some (.cells #[.string kLambda, .int .i64 0, .string ⟨#[]⟩, va, .slice none 0 0] 75)) (h2 : w.ownsRow w0.heap.size 9 1 va s.length (s.map Value.string))
    (R1 : RD w1 p g cap rk l k bl dp) (K1 : Keeps p w w1)
    (hown : w2.ownsRow w0.heap.size 9 1 (.slice (some ⟨gn, 0, none⟩) (s.length + 1) capn) (s.length + 1) (s.map Value.string ++ [.string x]))
    (hgrow : (w1.alloc (.cells #[.string x] 9)).grownBy w2 va.ownBlock) :
    RD (w2.setCell ⟨ce, 3, none⟩ (.slice (some ⟨gn, 0, none⟩) (s.length + 1) capn)) p g cap rk l k bl dp ∧ LamC p g ce cr w0 (s ++ [x]) (w2.setCell ⟨ce, 3, none⟩ (.slice (some ⟨gn, 0, none⟩) (s.length + 1) capn)) ∧ Below p w (w2.setCell ⟨ce, 3, none⟩ (.slice (some ⟨gn, 0, none⟩) (s.length + 1) capn)) := by
  have hpe := C.pe
  have hpr := C.pr
  have hle := C.le
  have hlr := C.lr
  have hlg := C.lg
  have hsz := C.sz
  have hs1 := K1.below.size
  have hs2 : w1.heap.size + 1 ≤ w2.heap.size := by have := hgrow.size; simpa using this
  have hold : ∀ j, j < w0.heap.size → w2.heap[j]? = w1.heap[j]? := fun j hj =>
    (hgrow.block j (by simp; omega) (fun e => by have h3 := own_ge h2 j e.symm; omega)).trans (Below.heap_alloc _ _ _ (by omega))
  have hfar : ∀ j, j < w0.heap.size → j ≠ ce → (w2.setCell ⟨ce, 3, none⟩ (.slice (some ⟨gn, 0, none⟩) (s.length + 1) capn)).heap[j]? = w1.heap[j]? := fun j hj hne => (heap_set _ _ _ _ _ hne).trans (hold j hj)
  have hB : w2.heap[ce]? = some (.cells #[.string kLambda, .int .i64 0, .string ⟨#[]⟩, va, .slice none 0 0] 75) := (hold ce hle).trans ((K1.block ce (by omega) (lt_of_heap h1)).trans h1)
  have hgn : w0.heap.size ≤ gn := own_ge hown gn rfl
  refine ⟨⟨(hfar p (by omega) (by omega)).trans R1.blk, fun j v hj => (World.cell?_of_block (hfar g hlg (fun e => C.neg e.symm))).trans (R1.toks j v hj), R1.gp, by rw [size_set]; have := R1.gl; omega⟩, ⟨⟨.slice (some ⟨gn, 0, none⟩) (s.length + 1) capn, ?_, ?_⟩, (World.cell?_of_block (hfar cr hlr (fun e => C.nec e.symm))).trans (K1.cell (by omega) C.r), C.pe, C.pr, C.nec, C.neg, C.le, C.lr, C.lg, by rw [size_set]; omega, fun j h3 h4 h5 => (hfar j h5 h4).trans ((K1.block j h3 (by omega)).trans (C.keep j h3 h4 h5))⟩, ?_⟩
  · exact set3_block hB _
  · rw [List.map_append, List.length_append]
    exact ownsRow_far' hown (fun j hj => heap_set _ _ _ _ _ (by have := own_ge hown j hj; omega))
  · exact (Below.grown (K1.below.alloc (by have := lt_of_heap R1.blk; omega) _) hgrow (by simp; have := lt_of_heap R1.blk; omega) (fun j hj => by have := own_ge h2 j hj; omega)).setCell (by simp only; omega) _

theorem lam_one {p g ce cr : Nat} {w0 w w1 : World} {s : List ByteArray} {va : Value} (C : LamC p g ce cr w0 s w) (h1 : w.heap[ce]? = some (.cells #[.string kLambda, .int .i64 0, .string ⟨#[]⟩, va, .slice none 0 0] 75)) (K1 : Keeps p w w1) :
    w1.cell? ⟨ce, 3, none⟩ = some va ∧ ce < w1.heap.size ∧ w1.frozen? ⟨ce, 3, none⟩ = false := by
  have hpe := C.pe
  have h1' := (K1.block ce (by omega) (lt_of_heap h1)).trans h1
  obtain ⟨_, _, _, q3, _, qf⟩ := expr_block h1'
  exact ⟨q3, lt_of_heap h1', qf 3⟩
theorem lam_two {p g ce cr : Nat} {w0 w w1 w2 : World} {s : List ByteArray} {va : Value} {B : Obj} (C : LamC p g ce cr w0 s w) (h1 : w.heap[ce]? = some (.cells #[.string kLambda, .int .i64 0, .string ⟨#[]⟩, va, .slice none 0 0] 75)) (h2 : w.ownsRow w0.heap.size 9 1 va s.length (s.map Value.string)) (K1 : Keeps p w w1)
    (hgrow : (w1.alloc B).grownBy w2 va.ownBlock) : w2.cell? ⟨ce, 3, none⟩ = some va ∧ w2.frozen? ⟨ce, 3, none⟩ = false := by
  obtain ⟨q1, q2, q3⟩ := lam_one C h1 K1
  have hne : some ce ≠ va.ownBlock := fun e => by have h3 := own_ge h2 ce e.symm; have h4 := C.le; omega
  exact ⟨(hgrow.cell_far ⟨ce, 3, none⟩ (by simp; omega) hne).trans ((World.cell?_alloc_past _ _ _ q2).trans q1), (hgrow.frozen_far ⟨ce, 3, none⟩ (by simp; omega) hne).trans ((World.frozen?_alloc_past _ _ _ q2).trans q3)⟩

theorem own_keeps {p g ce cr : Nat} {w0 w w1 : World} {s : List ByteArray} {va : Value} {B : Obj} (h2 : w.ownsRow w0.heap.size 9 1 va s.length (s.map Value.string)) (C : LamC p g ce cr w0 s w) (K : Keeps p w w1) : (w1.alloc B).ownsRow w0.heap.size 9 1 va s.length (s.map Value.string) := by
  refine World.ownsRow.alloc (ownsRow_far' h2 (fun k hk => K.block k (by have := own_ge h2 k hk; have := C.le; have := C.pe; omega) ?_)) _
  rcases h2.2 with ⟨e, _⟩ | ⟨g, c, cur, e, _, hg, _⟩
  · rw [e] at hk
    simp [Value.ownBlock] at hk
  · rw [e] at hk
    simp [Value.ownBlock] at hk
    subst hk
    exact lt_of_heap hg
theorem one_new (w : World) (v : Value) (t : TypeId) : ∀ j u, [v][j]? = some u → (w.alloc (.cells #[v] t)).cell? ((⟨w.heap.size, 0, none⟩ : Addr).add j) = some u :=
  World.news_of_block (cs := #[v]) (t := t) (heap_alloc_new w _)
theorem one_cell (s : ByteArray) : ∀ u ∈ [Value.string s], u.oneCell' = true := by
  intro u hu
  simp at hu
  subst hu
  rfl
set_option maxHeartbeats 2000000 in
set_option maxRecDepth 100000 in
theorem lamName_any {p g cap : Nat} {rk : Value} {l : List (ByteArray × ByteArray × Nat)} {bl dp : Nat} {a0 a1 : Addr} (ce cr : Nat) (w0 : World) (hl : l.length ≤ 100000) (hen : ∀ (k : Nat) (x : ByteArray × ByteArray × Nat), l[k]? = some x → isNameB x = true → k + 1 < l.length) (s : List ByteArray) (k : Nat) (hk : k < l.length) :
    Steps 120 #[.pointer (some ⟨ce, 0, none⟩), .pointer (some ⟨cr, 0, none⟩)] p g cap rk l bl dp a0 a1 (fun s k w => LamC p g ce cr w0 s w ∧ s.length ≤ k) s k (pName l s k) := by
  rintro w R ⟨C, hsk⟩ E
  have hsl : s.length ≤ 100000 := by omega
  obtain ⟨x, hx⟩ : ∃ x, l[k]? = some x := ⟨l[k], by simp [hk]⟩
  unfold pName
  rw [hx]
  simp only
  refine Calls.mono (R := fun ev w' => (isNameB x = true ∧ ev = .returned (.tuple #[]) ∧ RD w' p g cap rk l (k + 1) bl dp ∧ LamC p g ce cr w0 (s ++ [x.2.1]) w' ∧ Below p w w') ∨ (isNameB x = false ∧ faultAt l p a0 a1 w (k, false) ev w')) ?_ ?_
  case refine_2 =>
    rintro ev w' (⟨hm, rfl, q1, q2, q3⟩ | ⟨hm, q⟩)
    · rw [hm]
      exact ⟨rfl, q1, ⟨q2, by simp; omega⟩, q3, Nat.lt_succ_self _, hen k x hx hm⟩
    · rw [hm]
      exact q
  obtain ⟨va, h1, h2⟩ := C.e
  obtain ⟨_, _, _, q3, _, qf⟩ := expr_block h1
  have qf3 := qf 3
  have hr := C.r
  have hlr := lt_of_cell hr
  have hle := lt_of_heap h1
  have hpe := C.pe
  have hpr := C.pr
  have hbd : Below w.heap.size w w.drew := (Below.refl _ _).drew
  have hpl := lt_of_heap R.blk
  have hbp : Below p w w.drew := hbd.mono (by omega)
  have HN := toHid (rname_any (R.more hbd) (E.below hbp) hx hl)
  have HC := toHid C
  have HO := toHid h2
  have HB := toHid h1
  obtain ⟨i0, hi, hz0, hz1, hz2⟩ := info_parts infoStr
  have Hi := toHid hi
  have hsz := C.sz
  clear R E h2 h1 hx C hen qf hi
  go_enter Tryz.func120, Tryz.ntmps120
  go_wp2_with fail
  have q3d : w.drew.cell? ⟨ce, 3, none⟩ = some va := q3
  have hKd : Keeps p w w.drew := Keeps.of hbd (by omega)
  go_region_law (first
    | (refine step_append_lies _ (by rfl) _ _ _ (by rfl) w0.heap.size 9 i0 _ 1 16 Tryz.underlying30 Hi.out hz0 hz1 hz2 rfl (by decide) va s.length (s.map Value.string) (by rfl) (own_keeps HO.out HC.out (hKd.trans HK1.out)) _ 1 1 [.string x.2.1] (by rfl) rfl (one_new _ _ _) (one_cell _) (by decide) (by unfold maxLen; omega) (by omega) (by have := (hKd.trans HK1.out).below.size; simp; omega) _ rfl ?_; intro gn capn w2 hown2 hgrow hat hlt; obtain ⟨u4, u5⟩ := lam_two HC.out HB.out HO.out (hKd.trans HK1.out) hgrow; have HG := toHid hgrow; have HW := toHid hown2; clear hgrow hown2 hat)
    | (go_simp; go_at_call 71; refine HN.out.mono ?_; rintro ev w1 (⟨hm, rfl, R1, K1⟩ | ⟨hm, t, g1, b, rfl, g2⟩); rotate_left; exact ⟨rfl, Or.inr ⟨hm, faultAt.after hbp ⟨t, g1, b, rfl, g2⟩⟩⟩; obtain ⟨u1, u2, u3⟩ := lam_one HC.out HB.out (hKd.trans K1); have HR1 := toHid R1; have HK1 := toHid K1; clear R1 K1))
  all_goals (go_end0; exact Or.inl ⟨hm, rfl, lam_after HC.out HB.out HO.out HR1.out (hKd.trans HK1.out) HW.out HG.out⟩)
end Go.Proofs.YtpidanllncneaaaGreatDoor
