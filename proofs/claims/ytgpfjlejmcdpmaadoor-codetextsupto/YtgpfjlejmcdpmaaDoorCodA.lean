/- Package code: shapes, by a contract: a map that is known. -/
import Derived.Test.YtgpfjlejmcdpmaaDoorErrLaid
import Derived.BigQuiet
import Derived.Deep.RegionHeld3
import Derived.Maps.Own
import Derived.Maps.OwnOps
import Derived.Maps.OwnSet
import Derived.StringKeys
namespace Go.Proofs.YtgpfjlejmcdpmaaDoor
open Go.RowKit

theorem toHid {p : Prop} (h : p) : Hid p := h
theorem below_drewN {B : Nat} {a w : World} {q : Nat} (h : Below B a w) : Below B a (w.drewN q) := ⟨h.os, h.tape, h.output, h.size, h.block⟩
theorem wrapI (x : Int) (h0 : -9223372036854775808 ≤ x) (h1 : x < 9223372036854775808) : IntKind.i64.wrap x = x := by
  rw [IntKind.wrap_i64]
  omega

theorem heap_set (w : World) (b k o : Nat) (v : Value) (h : k ≠ b) : (w.setCell ⟨b, o, none⟩ v).heap[k]? = w.heap[k]? := by
  simp only [World.setCell, Array.getElem?_modify]
  rw [if_neg (fun e => h e.symm)]
theorem heap_set_same {w : World} {b t o : Nat} {cs : Array Value} {fr : Nat × Nat} {v : Value} (h : w.heap[b]? = some (.cells cs t fr)) : (w.setCell ⟨b, o, none⟩ v).heap[b]? = some (.cells (cs.setIfInBounds o v) t fr) := by
  simp [World.setCell, Array.getElem?_modify, h]
theorem ownsRow_far' {w w' : World} {base e size n : Nat} {v : Value} {xs : List Value} (h : w.ownsRow base e size v n xs) (hf : ∀ k, v.ownBlock = some k → w'.heap[k]? = w.heap[k]?) : w'.ownsRow base e size v n xs := by
  obtain ⟨h1, h2⟩ := h
  refine ⟨h1, ?_⟩
  rcases h2 with h2 | ⟨g, cap, cur, e1, hb, hg, r⟩
  · exact .inl h2
  · exact .inr ⟨g, cap, cur, e1, hb, by rw [hf g (by rw [e1]; rfl)]; exact hg, r⟩
theorem own_lt2 {w : World} {base e size n : Nat} {v : Value} {xs : List Value} (h : w.ownsRow base e size v n xs) : ∀ k, v.ownBlock = some k → base ≤ k ∧ k < w.heap.size := by
  intro k hk
  rcases h.2 with ⟨rfl, _⟩ | ⟨g, cap, cur, rfl, hb, hg, _⟩
  · cases hk
  · cases hk
    exact ⟨hb, lt_of_heap hg⟩
theorem own_slice {w : World} {base e size n : Nat} {v : Value} {xs : List Value} (h : w.ownsRow base e size v n xs) : ∃ ao cap, v = .slice ao n cap := by
  rcases h.2 with ⟨rfl, h0⟩ | ⟨g, cap, cur, rfl, _⟩
  · exact ⟨none, 0, by rw [h0]⟩
  · exact ⟨_, _, rfl⟩

theorem wpList_insert_own {H : Type} {P : Program} (w : World) {ops : Array Oper} {rest : List Oper} {o : Oper} {a : Act} {Q : Exit → Act → World → Prop}
    (hg : o.guard = none) (m x v : Operand) (t : TypeId) (hop : o.op = Op.insert t m x v)
    (k e : TypeId) (K : Maps.Keyed P k) (ht : P.underlying t = some (.map k e)) (R : Value → Option (DataW H × List MemPlace)) (b n : Nat) (D : DataW H)
    (hm : a.eval m = .map (some b)) (hown : w.ownsMap P k R b n D) (hn : n < maxLen) (key val : Value) (kl : Lit) (hx : a.eval x = key) (hv : a.eval v = val) (hkey : keyOf P k key = some kl)
    (d : DataW H) (ps : List MemPlace) (hval : R val = some (d, ps))
    (hK : ∀ w', w'.ownsMap P k R b (n + 1) (D.put kl d) → w.grownBy w' (some b) → wpList P ops Q rest (a.put o.dst undef) w') :
    wpList P ops Q (o :: rest) a w := by
  refine wpList_plain hg fun K' hK' => ?_
  obtain ⟨w', hrun, r1, r2⟩ := hown.update K ht hn hkey hval
  unfold Oper.wp
  simp [execOp, hop, hm, hx, hv, hrun, Result.andThen]
  exact hK' _ _ (hK w' r1 r2)
def litV : Value → DataW Unit
  | .int q n => .lit (.int q n)
  | .bool b => .lit (.bool b)
  | _ => .nil
/-- How a shape reads. -/
def shapeR (v : Value) : Option (DataW Unit × List MemPlace) := match v with
  | .agg c => some (.agg (c.toList.map litV), [])
  | _ => none
def encS (a t p e f : Int) (s : Bool) : DataW Unit := .agg [.lit (.int .i64 a), .lit (.int .i64 t), .lit (.int .i64 p), .lit (.int .i64 e), .lit (.int .i64 f), .lit (.bool s)]
def valS (a t p e f : Int) (s : Bool) : Value := .agg #[.int .i64 a, .int .i64 t, .int .i64 p, .int .i64 e, .int .i64 f, .bool s]
theorem litV_int {x : Value} {q : IntKind} {n : Int} (h : litV x = .lit (.int q n)) : x = .int q n := by
  cases x <;> simp [litV] at h
  obtain ⟨rfl, rfl⟩ := h
  rfl
theorem litV_bool {x : Value} {b : Bool} (h : litV x = .lit (.bool b)) : x = .bool b := by
  cases x <;> simp [litV] at h
  rw [h]
theorem shapeR_inv {v : Value} {a t p e f : Int} {s : Bool} {ps : List MemPlace} (h : shapeR v = some (encS a t p e f s, ps)) : v = valS a t p e f s := by
  unfold shapeR at h
  split at h
  · rename_i c
    obtain ⟨l⟩ := c
    simp only [Option.some.injEq, Prod.mk.injEq, encS, DataW.agg.injEq] at h
    obtain ⟨h, _⟩ := h
    rcases l with _ | ⟨x0, _ | ⟨x1, _ | ⟨x2, _ | ⟨x3, _ | ⟨x4, _ | ⟨x5, _ | ⟨x6, l⟩⟩⟩⟩⟩⟩⟩
    all_goals simp only [List.map_cons, List.map_nil, List.cons.injEq, and_true, reduceCtorEq, and_false] at h
    obtain ⟨h0, h1, h2, h3, h4, h5⟩ := h
    rw [litV_int h0, litV_int h1, litV_int h2, litV_int h3, litV_int h4, litV_bool h5]
    rfl
  · cases h
theorem shapeLaw : Maps.Keyed Tryd.prog 9 := Maps.string_keyed Tryd.underlying9
theorem shapeZero (w : World) : (zeroValue 62).run Tryd.prog w = .ok (valS 0 0 0 0 0 false) w := by kernel_rfl
/-- The shapes, by their names. -/
def shapeL : List (List UInt8 × (Int × Int × Int × Int × Int × Bool)) := [([99, 111, 110, 115, 116], 1, 0, 1, 0, 0, false), ([105, 110, 116], 2, 0, 1, 0, 0, false), ([115, 116, 114], 3, 0, 1, 0, 0, false), ([108, 111, 97, 100], 5, 0, 1, 0, 0, false), ([115, 116, 111, 114, 101], 5, 1, 0, 0, 0, false), ([99, 101, 108, 108], 6, 0, 1, 0, 0, false), ([102, 105, 108, 108], 6, 1, 0, 0, 0, false), ([103, 108, 111, 98, 97, 108], 4, 0, 1, 0, 0, false), ([110, 97, 109, 101], 4, 1, 0, 0, 0, false), ([110, 101, 103], 0, 1, 1, 0, 0, false), ([110, 111, 116], 0, 1, 1, 0, 0, false), ([97, 100, 100], 0, 2, 1, 0, 0, false), ([115, 117, 98], 0, 2, 1, 0, 0, false), ([109, 117, 108], 0, 2, 1, 0, 0, false), ([100, 105, 118], 0, 2, 1, 0, 0, false), ([109, 111, 100], 0, 2, 1, 0, 0, false), ([101, 113], 0, 2, 1, 0, 0, false), ([110, 101], 0, 2, 1, 0, 0, false), ([108, 116], 0, 2, 1, 0, 0, false), ([108, 101], 0, 2, 1, 0, 0, false), ([103, 116], 0, 2, 1, 0, 0, false), ([103, 101], 0, 2, 1, 0, 0, false), ([105, 115], 0, 2, 1, 0, 0, false), ([105, 110], 0, 2, 1, 0, 0, false), ([99, 97, 108, 108], 9, 1, 1, 1, 0, false), ([105, 110, 100, 101, 120], 0, 2, 1, 0, 0, false), ([112, 117, 116], 0, 3, 0, 0, 0, false), ([100, 101, 108], 0, 2, 0, 0, 0, false), ([108, 105, 115, 116], 9, 0, 1, 1, 0, false), ([100, 105, 99, 116], 9, 0, 1, 2, 0, false), ([99, 108, 111, 115, 117, 114, 101], 7, 0, 1, 0, 0, false), ([116, 97, 107, 101], 6, 0, 0, 0, 0, false), ([112, 111, 112], 0, 1, 0, 0, 0, false), ([100, 117, 112], 0, 1, 2, 0, 0, false), ([106, 117, 109, 112], 8, 0, 0, 0, 0, true), ([117, 110, 108, 101, 115, 115], 8, 1, 0, 0, 0, false), ([105, 116, 101, 114], 0, 1, 1, 0, 0, false), ([110, 101, 120, 116], 8, 1, 2, 0, 0, false), ([116, 114, 121], 8, 0, 0, 0, 1, false), ([101, 110, 100], 0, 0, 0, 0, 0, false), ([114, 97, 105, 115, 101], 0, 1, 0, 0, 0, true), ([114, 101, 116, 117, 114, 110], 0, 1, 0, 0, 0, true), ([115, 116, 101, 112], 0, 0, 0, 0, 0, false), ([104, 97, 108, 116], 0, 0, 0, 0, 0, true)]
def shapeD : DataW Unit := shapeL.foldl (fun D p => D.put (.string p.1) (encS p.2.1 p.2.2.1 p.2.2.2.1 p.2.2.2.2.1 p.2.2.2.2.2.1 p.2.2.2.2.2.2)) (.map [])
theorem shape_block {w : World} {b : Nat} {u0 u1 u2 u3 u4 u5 : Value} (h : w.heap[b]? = some (.cells #[u0, u1, u2, u3, u4, u5] 62)) :
    w.cell? ⟨b, 0, none⟩ = some u0 ∧ w.cell? ⟨b, 1, none⟩ = some u1 ∧ w.cell? ⟨b, 2, none⟩ = some u2 ∧ w.cell? ⟨b, 3, none⟩ = some u3 ∧ w.cell? ⟨b, 4, none⟩ = some u4 ∧ w.cell? ⟨b, 5, none⟩ = some u5 := by
  refine ⟨?_, ?_, ?_, ?_, ?_, ?_⟩
  · rw [cell_of_row w b 0 _ _ _ h]; rfl
  · rw [cell_of_row w b 1 _ _ _ h]; rfl
  · rw [cell_of_row w b 2 _ _ _ h]; rfl
  · rw [cell_of_row w b 3 _ _ _ h]; rfl
  · rw [cell_of_row w b 4 _ _ _ h]; rfl
  · rw [cell_of_row w b 5 _ _ _ h]; rfl
end Go.Proofs.YtgpfjlejmcdpmaaDoor
