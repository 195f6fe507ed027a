/- Package tree: terms. -/
import Derived.Test.YtajkahckmhipkaaGreatDoorTreeP
namespace Go.Proofs.YtajkahckmhipkaaGreatDoor
open Go.RowKit

theorem repL_row {S S' : Nat → Prop} {w : World} {base : Nat} {la : Option Addr} {lc : Nat} {cs : List Value} {es : List (DataW Unit)} (hO : w.ownsRow base 71 5 (.slice la es.length lc) es.length cs) (hCE : CellsE S w cs es) (hS : ∀ b, S b → S' b) (hB : ∀ b, base ≤ b → S' b) : RepL S' w la es := by
  intro h0
  obtain ⟨hl, ⟨e1, e2⟩ | ⟨g', cap', cur, e1, hb, hg, h1, h2, h3, h4⟩⟩ := hO
  · omega
  · simp at e1
    obtain ⟨rfl, rfl⟩ := e1
    refine ⟨g', 0, rfl, hB _ hb, fun i e hi => ?_⟩
    obtain ⟨c0, c1, c2, c3, c4, q0, q1, q2, q3, q4, hr⟩ := hCE.2 i e hi
    have hi' := (List.getElem?_eq_some_iff.1 hi).1
    have hc : ∀ j v, cs[j]? = some v → j < es.length * 5 → w.cell? ⟨g', j, none⟩ = some v := fun j v hj hlt => by
      rw [cell_of_row w g' _ _ _ _ hg]
      rw [← h4, List.getElem?_take_of_lt hlt] at hj
      simpa using hj
    refine ⟨c0, c1, c2, c3, c4, ?_, ?_, ?_, ?_, ?_, hr.same (fun _ _ _ => rfl) (fun b h _ => hS b h)⟩ <;> rw [Nat.zero_add] <;> exact hc _ _ (by assumption) (by omega)

theorem own_cap {w : World} {base n lc : Nat} {la : Option Addr} {xs : List Value} (hO : w.ownsRow base 71 5 (.slice la n lc) n xs) : n ≤ lc := by
  obtain ⟨_, ⟨e1, e2⟩ | ⟨g', cap', cur, e1, _, _, h1, _⟩⟩ := hO
  · omega
  · simp at e1
    omega

def tStart (w : World) (p : Nat) (v : Value) : World := (w.alloc (.cells #[.pointer (some ⟨p, 0, none⟩)] 77)).alloc (.cells #[v] 37)
theorem tStart_below (w : World) (p : Nat) (v : Value) : Below w.heap.size w (tStart w p v) := ((Below.refl _ _).alloc (Nat.le_refl _) _).alloc (by simp) _
theorem tStart_r (w : World) (p : Nat) (v : Value) : (tStart w p v).heap[w.heap.size]? = some (.cells #[.pointer (some ⟨p, 0, none⟩)] 77) :=
  (Below.heap_alloc _ _ _ (by simp)).trans (heap_alloc_new w _)
theorem tStart_l (w : World) (p : Nat) (v : Value) : (tStart w p v).heap[w.heap.size + 1]? = some (.cells #[v] 37) := by
  have := heap_alloc_new (w.alloc (.cells #[.pointer (some ⟨p, 0, none⟩)] 77)) (.cells #[v] 37)
  simpa [tStart] using this
theorem tStart_C {S0 : Nat → Prop} {p g : Nat} {rk : Value} {a0 a1 : Addr} {w0 w : World} {v : Value} {cs : List Value} {es : List (DataW Unit)} (K0 : Keeps p w0 w) (E : TErr p a0 a1 w0) (X : RK p rk w0) (hp : p < w0.heap.size) (hg : g < w0.heap.size) (hO : w.ownsRow w0.heap.size 71 5 v es.length cs) (hCE : CellsE (fun b => S0 b ∨ (w0.heap.size ≤ b ∧ v.ownBlock ≠ some b)) w cs es) (hs0 : ∀ b, S0 b → b < w0.heap.size ∧ b ≠ p) :
    TermC S0 p g (w.heap.size + 1) w.heap.size rk a0 a1 w0 es (tStart w p v) := by
  have hsz := K0.below.size
  have hb := tStart_below w p v
  refine ⟨⟨v, cs, tStart_l w p v, ownsRow_far' hO (fun k hk => hb.block k (own_lt hO k hk)), hCE.same (same_below hb) (fun b h hl => ?_), fun h => by have := own_lt hO _ h; omega, fun h => by have := own_lt hO _ h; omega⟩, tStart_r w p v, (Old.below ⟨hsz, fun k hk hl => K0.block k hk hl⟩ hb), E, X, hp, hg, by omega, by omega, by omega, hs0⟩
  rcases h with h | ⟨h1, h2⟩
  · exact .inl h
  · exact .inr ⟨h1, by omega, by omega, h2⟩

set_option maxHeartbeats 2000000 in
set_option maxRecDepth 100000 in
theorem terms_any {S0 : Nat → Prop} {p g cap : Nat} {rk : Value} {l : List (ByteArray × ByteArray × Nat)} {k bl dp : Nat} {a0 a1 : Addr} (closing : ByteArray) (hl : l.length ≤ 100000) (hen : Ended l) (hk : k < l.length) (term : Nat → Out (DataW Unit))
    (hterm : ∀ k', k ≤ k' → k' < l.length → ReadsE 72 #[.pointer (some ⟨p, 0, none⟩)] p g cap rk l k' bl dp a0 a1 (term k')) (w0 w : World) (v : Value) (cs : List Value) (es : List (DataW Unit)) (R : RD w p g cap rk l k bl dp) (K0 : Keeps p w0 w) (E : TErr p a0 a1 w0) (X : RK p rk w0) (hp : p < w0.heap.size) (hg : g < w0.heap.size)
    (hO : w.ownsRow w0.heap.size 71 5 v es.length cs) (hCE : CellsE (fun b => S0 b ∨ (w0.heap.size ≤ b ∧ v.ownBlock ≠ some b)) w cs es) (hs0 : ∀ b, S0 b → b < w0.heap.size ∧ b ≠ p) (hlen : es.length ≤ k + 1) :
    Calls Tryz.prog 124 #[.pointer (some ⟨p, 0, none⟩), .string closing, v] w fun ev w' => PostL (fun b => S0 b ∨ w0.heap.size ≤ b) p g cap rk l k bl dp a0 a1 w0 (pUpTo l (pTermStep term) closing l.length es k) ev w' := by
  obtain ⟨pa, pc, rfl⟩ : ∃ pa pc, v = .slice pa es.length pc := by
    rcases hO.2 with ⟨e, h0⟩ | ⟨g', c', cur, e, _⟩
    · exact ⟨none, 0, by rw [h0]; exact e⟩
    · exact ⟨_, _, e⟩
  have hb := tStart_below w p (.slice pa es.length pc)
  have hpl := lt_of_heap R.blk
  have HU := toHid (upTo_any 144 #[.pointer (some ⟨w.heap.size + 1, 0, none⟩), .pointer (some ⟨w.heap.size, 0, none⟩)] (fun _ _ => rfl) (fun s k w' => TermC S0 p g (w.heap.size + 1) w.heap.size rk a0 a1 w0 s w' ∧ s.length ≤ k + 1) (fun s k k' w1 w2 h1 h2 h3 => ⟨h2.1.keeps h3, by have := h2.2; omega⟩) (pTermStep term) k (fun s k' hk1 hk2 => termsStep_any _ _ _ hl term s k' hk2 (hterm k' hk1 hk2)) hl hen closing es k l.length (Nat.le_refl _) hk (by omega) (tStart w p (.slice pa es.length pc)) (R.more hb) ⟨tStart_C K0 E X hp hg hO hCE hs0, hlen⟩ ((E.keeps K0).below (hb.mono (by omega))))
  have hbp : Below p w0 (tStart w p (.slice pa es.length pc)) := K0.below.trans (hb.mono (by omega))
  obtain ⟨o, ho⟩ : ∃ o, pUpTo l (pTermStep term) closing l.length es k = o := ⟨_, rfl⟩
  rw [ho] at HU ⊢
  clear R E X hO hCE hs0 hterm ho
  go_enter Tryz.func124, Tryz.ntmps124
  go_wp2_with fail
  refine HU.out.mono ?_
  intro ev w1 hP
  cases o with
  | error y =>
    obtain ⟨t, g1, b, rfl, g2⟩ := hP
    have HF : Hid (faultAt l p a0 a1 w0 y (.panicked [{ v := .iface 58 (.pointer (some ⟨b, 0, none⟩)), recovered := false }]) w1) := faultAt.after hbp ⟨t, g1, b, rfl, g2⟩
    clear g1 g2 HU hbp
    go_wp2_with fail
    exact ⟨rfl, HF.out⟩
  | ok y =>
    obtain ⟨es1, k1⟩ := y
    obtain ⟨rfl, R1, ⟨C1, _⟩, hb1, hk1, hk1l⟩ := hP
    obtain ⟨v1, cs1, hV, hO, hCE, hn1, hn2⟩ := C1.l
    have c0 : w1.cell? ⟨w.heap.size + 1, 0, none⟩ = some v1 := by rw [cell_of_row _ _ 0 _ _ _ hV]; rfl
    have l0 := lt_of_cell c0
    obtain ⟨la, lc, rfl⟩ : ∃ la lc, v1 = .slice la es1.length lc := by
      rcases hO.2 with ⟨e, h0⟩ | ⟨g', c', cur, e, _⟩
      · exact ⟨none, 0, by rw [h0]; exact e⟩
      · exact ⟨_, _, e⟩
    have HF : Hid (RepL (fun b => S0 b ∨ w0.heap.size ≤ b) w1 la es1 ∧ RD w1 p g cap rk l k1 bl dp ∧ Keeps p w0 w1) := ⟨repL_row hO hCE (fun b h => h.imp id (fun h => h.1)) (fun b h => .inr h), R1, hbp.trans hb1, C1.old.block⟩
    have hcap := own_cap hO
    clear R1 C1 hO hCE hV hb1 HU hbp
    go_wp2_with fail
    go_ret
    exact ⟨_, _, rfl, HF.out.1, HF.out.2.1, HF.out.2.2, hk1, hk1l, hcap⟩
end Go.Proofs.YtajkahckmhipkaaGreatDoor
