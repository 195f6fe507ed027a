/- Package code: what a name's shape is, in the map of shapes; howMany, by a contract. -/
import Derived.Test.YtgpfjlejmcdpmaaDoorCodA
import Derived.Deep.RegionWith
import Derived.Deep.QuietTactic
import Derived.WalkSmall
import Derived.Deep.LoopGhost
import Derived.Laws.MakeOwn
import Derived.Deep.RegionLaw
import Derived.Deep.Cut
import Derived.Deep.CutRange
namespace Go.Proofs.YtgpfjlejmcdpmaaDoor
open Go.RowKit

def bStep : ByteArray := ⟨#[115, 116, 101, 112]⟩
def bHalt : ByteArray := ⟨#[104, 97, 108, 116]⟩
def bConst : ByteArray := ⟨#[99, 111, 110, 115, 116]⟩
def bRet : ByteArray := ⟨#[114, 101, 116, 117, 114, 110]⟩
/-- The shapes stand in a map of one's own. -/
def Known (bm : Nat) (w : World) : Prop := w.ownsMap Tryd.prog 9 shapeR bm 44 shapeD
theorem Known.lt {bm : Nat} {w : World} (h : Known bm w) : bm < w.heap.size := World.ownsMap.lt h
theorem Known.below {bm : Nat} {w w' : World} (h : Known bm w) (hb : Below w.heap.size w w') : Known bm w' := by
  have g : w.grownBy w' none := ⟨hb.os, hb.tape, hb.output, hb.size, fun k hk _ => hb.block k hk⟩
  exact World.ownsMap.kept h g (by simp)
theorem look_any {bm : Nat} {w : World} (h : Known bm w) (s : ByteArray) (hs : s.size ≤ maxLen) (a t p e f : Int) (st : Bool) (hat : shapeD.atKey (.string s.data.toList) (encS 0 0 0 0 0 false) = encS a t p e f st) :
    (Instr.lookup 54 (.map (some bm)) (.string s) false).run Tryd.prog w = .ok (valS a t p e f st) w ∧ (Instr.lookup 54 (.map (some bm)) (.string s) true).run Tryd.prog w = .ok (.tuple #[valS a t p e f st, .bool (Maps.has shapeD (.string s.data.toList))]) w := by
  have hk : keyOf Tryd.prog 9 (.string s) = some (.string s.data.toList) := WideMaps.keyOf_string_mk Tryd.underlying9 hs
  constructor
  · obtain ⟨v, ps, hrun, hv⟩ := World.ownsMap.lookup h shapeLaw Tryd.underlying54 (shapeZero w) (zd := encS 0 0 0 0 0 false) (zp := []) rfl hk
    rw [hat] at hv
    rw [← shapeR_inv hv]
    exact hrun
  · obtain ⟨v, ps, hrun, hv⟩ := World.ownsMap.look_ok h shapeLaw Tryd.underlying54 (shapeZero w) (zd := encS 0 0 0 0 0 false) (zp := []) rfl hk
    rw [hat] at hv
    rw [← shapeR_inv hv]
    exact hrun
/-- A name, and its shape. -/
structure Named (s : ByteArray) (a t p : Int) (st : Bool) : Prop where
  size : s.size ≤ 100
  at_ : shapeD.atKey (.string s.data.toList) (encS 0 0 0 0 0 false) = encS a t p 0 0 st
  has : Maps.has shapeD (.string s.data.toList) = true
theorem nStep : Named bStep 0 0 0 false := ⟨by decide, by kernel_rfl, by kernel_rfl⟩
theorem nHalt : Named bHalt 0 0 0 true := ⟨by decide, by kernel_rfl, by kernel_rfl⟩
theorem nConst : Named bConst 1 0 1 false := ⟨by decide, by kernel_rfl, by kernel_rfl⟩
theorem nRet : Named bRet 0 1 0 true := ⟨by decide, by kernel_rfl, by kernel_rfl⟩
theorem Named.look {s : ByteArray} {a t p : Int} {st : Bool} (n : Named s a t p st) {bm : Nat} {w : World} (h : Known bm w) :
    (Instr.lookup 54 (.map (some bm)) (.string s) false).run Tryd.prog w = .ok (.agg #[.int .i64 a, .int .i64 t, .int .i64 p, .int .i64 0, .int .i64 0, .bool st]) w ∧ (Instr.lookup 54 (.map (some bm)) (.string s) true).run Tryd.prog w = .ok (.tuple #[.agg #[.int .i64 a, .int .i64 t, .int .i64 p, .int .i64 0, .int .i64 0, .bool st], .bool true]) w := by
  have k := look_any h s (by have := n.size; unfold maxLen; omega) a t p 0 0 st n.at_
  rw [n.has] at k
  exact k
theorem many_results (tmps : Array Value) (W : World) (b : Nat) (v0 v1 v2 v3 v4 v5 v6 v7 v8 v9 : Value) (h2 : tmps[4]?.getD undef = .pointer (some ⟨b, 0, none⟩)) (c0 : W.cell? ⟨b, 0, none⟩ = some v0) (c1 : W.cell? ⟨b, 1, none⟩ = some v1) (c2 : W.cell? ⟨b, 2, none⟩ = some v2) (c3 : W.cell? ⟨b, 3, none⟩ = some v3) (c4 : W.cell? ⟨b, 4, none⟩ = some v4) (c5 : W.cell? ⟨b, 5, none⟩ = some v5) (c6 : W.cell? ⟨b, 6, none⟩ = some v6) (c7 : W.cell? ⟨b, 7, none⟩ = some v7) (c8 : W.cell? ⟨b, 8, none⟩ = some v8) (c9 : W.cell? ⟨b, 9, none⟩ = some v9) :
    (results Tryd.f38 tmps).run Tryd.prog W = .ok (.agg #[v0, v1, v2, v3, v4, v5, v6, v7, v8, v9]) W := by
  simp [results, Tryd.results38, go_sem, h2, c0, c1, c2, c3, c4, c5, c6, c7, c8, c9]
set_option maxHeartbeats 2000000 in
theorem howMany_any (aF aI aS aN aO : Option Addr) (nF nI nS nN nO cF cI cS cN cO : Nat) (s : ByteArray) (w : World) :
    Calls Tryd.prog 38 #[.agg #[.slice aF nF cF, .slice aI nI cI, .slice aS nS cS, .slice aN nN cN], .agg #[.string s, .int .i64 0, .int .i64 0, .int .i64 0, .int .i64 0, .slice aO nO cO]] w fun ev w' => ev = .returned (.agg #[.int .i64 1, .int .i64 3, .int .i64 (nI : Int), .int .i64 (nS : Int), .int .i64 (nN : Int), .int .i64 0, .int .i64 0, .int .i64 (nF : Int), .int .i64 (nO : Int), .int .i64 1001]) ∧ Below w.heap.size w w' := by
  go_enter Tryd.func38, Tryd.ntmps38
  go_wp2_with fail
  have hnew := heap_alloc_new ((w.alloc (.cells #[.slice aF nF cF, .slice aI nI cI, .slice aS nS cS, .slice aN nN cN] 32)).alloc (.cells #[.string s, .int .i64 0, .int .i64 0, .int .i64 0, .int .i64 0, .slice aO nO cO] 39)) (.cells #[.int .i64 1, .int .i64 3, .int .i64 (nI : Int), .int .i64 (nS : Int), .int .i64 (nN : Int), .int .i64 0, .int .i64 0, .int .i64 (nF : Int), .int .i64 (nO : Int), .int .i64 1001] 84)
  have e1 : ((w.alloc (.cells #[.slice aF nF cF, .slice aI nI cI, .slice aS nS cS, .slice aN nN cN] 32)).alloc (.cells #[.string s, .int .i64 0, .int .i64 0, .int .i64 0, .int .i64 0, .slice aO nO cO] 39)).heap.size = w.heap.size + 1 + 1 := by simp
  rw [e1] at hnew
  have hbf : Below w.heap.size w (((w.alloc (.cells #[.slice aF nF cF, .slice aI nI cI, .slice aS nS cS, .slice aN nN cN] 32)).alloc (.cells #[.string s, .int .i64 0, .int .i64 0, .int .i64 0, .int .i64 0, .slice aO nO cO] 39)).alloc (.cells #[.int .i64 1, .int .i64 3, .int .i64 (nI : Int), .int .i64 (nS : Int), .int .i64 (nN : Int), .int .i64 0, .int .i64 0, .int .i64 (nF : Int), .int .i64 (nO : Int), .int .i64 1001] 84)) := (((Below.refl _ _).alloc (Nat.le_refl _) _).alloc (by simp) _).alloc (by simp; omega) _
  have cc := fun k => cell_of_row _ _ k _ _ _ hnew
  refine bodyPost_ret (many_results _ _ (w.heap.size + 1 + 1) _ _ _ _ _ _ _ _ _ _ rfl ((cc 0).trans rfl) ((cc 1).trans rfl) ((cc 2).trans rfl) ((cc 3).trans rfl) ((cc 4).trans rfl) ((cc 5).trans rfl) ((cc 6).trans rfl) ((cc 7).trans rfl) ((cc 8).trans rfl) ((cc 9).trans rfl)) rfl ?_
  exact ⟨rfl, hbf⟩
end Go.Proofs.YtgpfjlejmcdpmaaDoor
