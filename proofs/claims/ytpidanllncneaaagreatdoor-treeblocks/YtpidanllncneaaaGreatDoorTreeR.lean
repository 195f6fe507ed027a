/- Package tree: post's closure that reads a call. -/
import Derived.Test.YtpidanllncneaaaGreatDoorTreeQ
namespace Go.Proofs.YtpidanllncneaaaGreatDoor
open Go.RowKit

def kCall : ByteArray := ⟨#[99, 97, 108, 108]⟩
def rpar : ByteArray := ⟨#[41]⟩
theorem call_done {S : Nat → Prop} {p g cap : Nat} {rk : Value} {l : List (ByteArray × ByteArray × Nat)} {k3 bl dp : Nat} {w w3 : World} {el : List (DataW Unit)} {la : Option Addr} {lc : Nat} (op : ByteArray) (hop : op ≠ kIndex) (hpl : p < w.heap.size) (hgl : g < w.heap.size) (hSp : ∀ b, S b → b ≠ p ∧ b < w.heap.size) (K3 : Keeps p (w.alloc (.cells #[.string ⟨#[]⟩, .int .i64 0, .string ⟨#[]⟩, .slice none 0 0, .slice none 0 0] 75)) w3) (R3 : RD w3 p g cap rk l k3 bl dp) (hL : RepL (fun b => S b ∨ w.heap.size + 1 ≤ b) w3 la el) :
    (set5 w3 w.heap.size (.string op) (.int .i64 0) (.string ⟨#[]⟩) (.slice none 0 0) (.slice la el.length lc)).heap[w.heap.size]? = some (.cells #[.string op, .int .i64 0, .string ⟨#[]⟩, .slice none 0 0, .slice la el.length lc] 75) ∧ RepE (fun b => S b ∨ w.heap.size ≤ b) (set5 w3 w.heap.size (.string op) (.int .i64 0) (.string ⟨#[]⟩) (.slice none 0 0) (.slice la el.length lc)) [.string op, .int .i64 0, .string ⟨#[]⟩, .slice none 0 0, .slice la el.length lc] (mkE op 0 ⟨#[]⟩ [] el) ∧ RD (set5 w3 w.heap.size (.string op) (.int .i64 0) (.string ⟨#[]⟩) (.slice none 0 0) (.slice la el.length lc)) p g cap rk l k3 bl dp ∧ Keeps p w (set5 w3 w.heap.size (.string op) (.int .i64 0) (.string ⟨#[]⟩) (.slice none 0 0) (.slice la el.length lc)) := by
  have hb0 : Below w.heap.size w (w.alloc (.cells #[.string ⟨#[]⟩, .int .i64 0, .string ⟨#[]⟩, .slice none 0 0, .slice none 0 0] 75)) := (Below.refl _ _).alloc (Nat.le_refl _) _
  have K0 : Keeps p w (w.alloc (.cells #[.string ⟨#[]⟩, .int .i64 0, .string ⟨#[]⟩, .slice none 0 0, .slice none 0 0] 75)) := Keeps.of hb0 (by omega)
  have hs0 : (w.alloc (.cells #[.string ⟨#[]⟩, .int .i64 0, .string ⟨#[]⟩, .slice none 0 0, .slice none 0 0] 75)).heap.size = w.heap.size + 1 := by simp
  have hB := (K3.block w.heap.size (by omega) (by omega)).trans (heap_alloc_new w (.cells #[.string ⟨#[]⟩, .int .i64 0, .string ⟨#[]⟩, .slice none 0 0, .slice none 0 0] 75))
  have hsame : Same (fun b => S b ∨ w.heap.size + 1 ≤ b) w3 (set5 w3 w.heap.size (.string op) (.int .i64 0) (.string ⟨#[]⟩) (.slice none 0 0) (.slice la el.length lc)) := same_set5 (by rintro (h | h) <;> first | omega | (have h2 := (hSp _ h).2; omega)) _ _ _ _ _
  have r : RepL (fun b => S b ∨ w.heap.size ≤ b) (set5 w3 w.heap.size (.string op) (.int .i64 0) (.string ⟨#[]⟩) (.slice none 0 0) (.slice la el.length lc)) la el := hL.same hsame (fun b hb _ => hb.imp id (fun h => by omega))
  exact ⟨set5_block hB _ _ _ _ _, mkRep (pl := []) (by simp) r (fun _ h => absurd h hop), R3.set5 (by omega) (by omega) _ _ _ _ _, (K0.trans K3).set5 (by omega) (by omega) _ _ _ _ _⟩

/-- A row of one term. -/
theorem row_one (w : World) (c0 c1 c2 c3 c4 : Value) : (w.alloc (.cells #[c0, c1, c2, c3, c4] 75)).ownsRow w.heap.size 75 5 (.slice (some ⟨w.heap.size, 0, none⟩) 1 1) 1 [c0, c1, c2, c3, c4] :=
  ⟨by simp, .inr ⟨w.heap.size, 1, #[c0, c1, c2, c3, c4], rfl, Nat.le_refl _, heap_alloc_new w _, Nat.le_refl _, by unfold maxLen; omega, by simp, by simp⟩⟩

set_option maxHeartbeats 2000000 in
set_option maxRecDepth 100000 in
theorem postCall_any {S : Nat → Prop} {p g cap : Nat} {rk : Value} {l : List (ByteArray × ByteArray × Nat)} {k bl dp : Nat} {a0 a1 : Addr} {e : DataW Unit} {op : ByteArray} {z : Int} {sx : ByteArray} {pa : Option Addr} {pn pc : Nat} {la : Option Addr} {ln lc : Nat} (ce cr : Nat) (hl : l.length ≤ 100000) (hen : Ended l) (hk : k < l.length) (term : Nat → Out (DataW Unit))
    (hterm : ∀ k', k ≤ k' → k' < l.length → ReadsE 68 #[.pointer (some ⟨p, 0, none⟩)] p g cap rk l k' bl dp a0 a1 (term k')) (w : World) (R : RD w p g cap rk l k bl dp) (E : TErr p a0 a1 w) (X : RK p rk w) (hSp : ∀ b, S b → b ≠ p ∧ b < w.heap.size) (hrep0 : RepE S w [.string op, .int .i64 z, .string sx, .slice pa pn pc, .slice la ln lc] e)
    (hce : w.heap[ce]? = some (.cells #[.string op, .int .i64 z, .string sx, .slice pa pn pc, .slice la ln lc] 75)) (hcr : w.cell? ⟨cr, 0, none⟩ = some (.pointer (some ⟨p, 0, none⟩))) :
    Calls Tryz.prog 122 #[.pointer (some ⟨cr, 0, none⟩), .pointer (some ⟨ce, 0, none⟩)] w fun ev w' => PostE (fun b => S b ∨ w.heap.size ≤ b) p g cap rk l k bl dp a0 a1 w (pList kCall (pUpTo l (pTermStep term) rpar l.length [e] k)) ev w' := by
  have hpl := lt_of_heap R.blk
  have hgl := R.gl
  have hcl := lt_of_heap hce
  have hrl := lt_of_cell hcr
  have hb0 : Below w.heap.size w (w.alloc (.cells #[.string ⟨#[]⟩, .int .i64 0, .string ⟨#[]⟩, .slice none 0 0, .slice none 0 0] 75)) := (Below.refl _ _).alloc (Nat.le_refl _) _
  have K0 : Keeps p w (w.alloc (.cells #[.string ⟨#[]⟩, .int .i64 0, .string ⟨#[]⟩, .slice none 0 0, .slice none 0 0] 75)) := Keeps.of hb0 (by omega)
  have hs0 : (w.alloc (.cells #[.string ⟨#[]⟩, .int .i64 0, .string ⟨#[]⟩, .slice none 0 0, .slice none 0 0] 75)).heap.size = w.heap.size + 1 := by simp
  have HT : Hid (∀ W, Below (w.heap.size + 1) (w.alloc (.cells #[.string ⟨#[]⟩, .int .i64 0, .string ⟨#[]⟩, .slice none 0 0, .slice none 0 0] 75)) W → W.heap.size = w.heap.size + 1 → Calls Tryz.prog 123 #[.pointer (some ⟨p, 0, none⟩), .string ⟨#[41]⟩, .slice (some ⟨w.heap.size + 1, 0, none⟩) 1 1] (W.alloc (.cells #[.string op, .int .i64 z, .string sx, .slice pa pn pc, .slice la ln lc] 75)) fun ev w' => PostL (fun b => S b ∨ w.heap.size + 1 ≤ b) p g cap rk l k bl dp a0 a1 (w.alloc (.cells #[.string ⟨#[]⟩, .int .i64 0, .string ⟨#[]⟩, .slice none 0 0, .slice none 0 0] 75)) (pUpTo l (pTermStep term) rpar l.length [e] k) ev w') := by
    intro W hbW hsW
    have hbA : Below W.heap.size W (W.alloc (.cells #[.string op, .int .i64 z, .string sx, .slice pa pn pc, .slice la ln lc] 75)) := (Below.refl _ _).alloc (Nat.le_refl _) _
    have hbT : Below (w.heap.size + 1) (w.alloc (.cells #[.string ⟨#[]⟩, .int .i64 0, .string ⟨#[]⟩, .slice none 0 0, .slice none 0 0] 75)) (W.alloc (.cells #[.string op, .int .i64 z, .string sx, .slice pa pn pc, .slice la ln lc] 75)) := hbW.trans (hbA.mono (by omega))
    have hrow := row_one W (.string op) (.int .i64 z) (.string sx) (.slice pa pn pc) (.slice la ln lc)
    rw [hsW] at hrow
    have r1 : RepE (fun b => S b ∨ (w.heap.size + 1 ≤ b ∧ (Value.slice (some ⟨w.heap.size + 1, 0, none⟩) 1 1).ownBlock ≠ some b)) (W.alloc (.cells #[.string op, .int .i64 z, .string sx, .slice pa pn pc, .slice la ln lc] 75)) [.string op, .int .i64 z, .string sx, .slice pa pn pc, .slice la ln lc] e :=
      hrep0.same (fun b hb hlt => (hbT.block b (by omega)).trans (hb0.block b hlt)) (fun b hb _ => .inl hb)
    have hT := terms_any (S0 := S) rpar hl hen hk term hterm (w.alloc (.cells #[.string ⟨#[]⟩, .int .i64 0, .string ⟨#[]⟩, .slice none 0 0, .slice none 0 0] 75)) (W.alloc (.cells #[.string op, .int .i64 z, .string sx, .slice pa pn pc, .slice la ln lc] 75)) (.slice (some ⟨w.heap.size + 1, 0, none⟩) 1 1) [.string op, .int .i64 z, .string sx, .slice pa pn pc, .slice la ln lc] [e]
      ((R.more hb0).more (by rw [hs0]; exact hbT)) (Keeps.of (by rw [hs0]; exact hbT) (by omega)) (E.keeps K0) (X.keeps K0) (by omega) (by omega) (by rw [hs0]; exact hrow) (by rw [hs0]; exact (CellsE.nil _ _).snoc r1) (fun b hb => by have := hSp b hb; rw [hs0]; omega) (by simp)
    rw [hs0] at hT
    exact hT
  have HB0 := toHid (heap_alloc_new w (.cells #[.string ⟨#[]⟩, .int .i64 0, .string ⟨#[]⟩, .slice none 0 0, .slice none 0 0] 75))
  obtain ⟨t0, t1, t2, t3, t4, _⟩ := expr_block hce
  obtain ⟨o, ho⟩ : ∃ o, pUpTo l (pTermStep term) rpar l.length [e] k = o := ⟨_, rfl⟩
  rw [ho] at HT ⊢
  have HSP := toHid hSp
  clear hterm R E X ho hrep0 hSp hce
  go_enter Tryz.func122, Tryz.ntmps122
  go_wp2_with fail
  refine (HT.out _ (Below.refl _ _) hs0).mono ?_
  intro ev w3 hP
  unfold PostL at hP
  cases o with
  | error y =>
    obtain ⟨t, g1, b, rfl, g2⟩ := hP
    have HF : Hid (faultAt l p a0 a1 w y (.panicked [{ v := .iface 39 (.pointer (some ⟨b, 0, none⟩)), recovered := false }]) w3) := faultAt.after K0.below ⟨t, g1, b, rfl, g2⟩
    clear g1 g2 K0 HT
    go_wp2_with fail
    exact ⟨rfl, HF.out⟩
  | ok y =>
    obtain ⟨el, k'⟩ := y
    obtain ⟨la, lc, rfl, hL, R3, K3, hk3, hk3l⟩ := hP
    have hB3 := (K3.block w.heap.size (by omega) (by omega)).trans HB0.out
    obtain ⟨u0, u1, u2, u3, u4, uf⟩ := expr_block hB3
    have uf0 := uf 0
    have uf1 := uf 1
    have uf2 := uf 2
    have uf3 := uf 3
    have uf4 := uf 4
    have ul := lt_of_heap hB3
    have HZ := toHid (call_done (lc := lc) kCall (by decide) hpl hgl HSP.out K3 R3 hL)
    clear hL R3 K3 K0 hB3 uf HT
    go_wp2_with fail
    obtain ⟨z1, z2, z3, z4⟩ := HZ.out
    refine bodyPost_ret (results_expr _ 2 rfl _ _ w.heap.size _ _ _ _ _ rfl z1) rfl ?_
    exact ⟨_, _, _, _, _, rfl, z2, z3, z4, by omega, hk3l⟩
end Go.Proofs.YtpidanllncneaaaGreatDoor
