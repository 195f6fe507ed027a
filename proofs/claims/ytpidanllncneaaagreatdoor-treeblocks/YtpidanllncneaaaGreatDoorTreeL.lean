/- Package tree: post's closure that reads an index. -/
import Derived.Test.YtpidanllncneaaaGreatDoorTreeK
namespace Go.Proofs.YtpidanllncneaaaGreatDoor
open Go.RowKit

def pIndex (e : DataW Unit) (o : Out (DataW Unit)) : Out (DataW Unit) := match o with
  | .error x => .error x
  | .ok (e2, k') => .ok (mkE kIndex 0 ⟨#[]⟩ [] [e, e2], k')

/-- Behind the region: the new term in block H, its two parts in a new block. -/
theorem index_done {S : Nat → Prop} {p g cap : Nat} {rk : Value} {l : List (ByteArray × ByteArray × Nat)} {k3 bl dp : Nat} {w w5 : World} {e e2 : DataW Unit} {op : ByteArray} {z : Int} {sx : ByteArray} {pa : Option Addr} {pn pc : Nat} {la : Option Addr} {ln lc : Nat} {op2 : ByteArray} {z2 : Int} {sx2 : ByteArray} {pa2 : Option Addr} {pn2 pc2 : Nat} {la2 : Option Addr} {ln2 lc2 : Nat}
    (hpl : p < w.heap.size) (hgl : g < w.heap.size) (hSp : ∀ b, S b → b ≠ p ∧ b < w.heap.size) (hrep0 : RepE S w [.string op, .int .i64 z, .string sx, .slice pa pn pc, .slice la ln lc] e) (K5d : Keeps p (w.alloc (.cells #[.string ⟨#[]⟩, .int .i64 0, .string ⟨#[]⟩, .slice none 0 0, .slice none 0 0] 75)).drew w5) (R5 : RD w5 p g cap rk l k3 bl dp) (hrep : RepE (fun b => w.heap.size + 1 ≤ b) w5 [.string op2, .int .i64 z2, .string sx2, .slice pa2 pn2 pc2, .slice la2 ln2 lc2] e2) (w6 : World)
    (hw : w6 = (set5 w5 w.heap.size (.string kIndex) (.int .i64 0) (.string ⟨#[]⟩) (.slice none 0 0) (.slice (some ⟨w5.heap.size, 0, none⟩) 2 2)).alloc (.cells #[.string op, .int .i64 z, .string sx, .slice pa pn pc, .slice la ln lc, .string op2, .int .i64 z2, .string sx2, .slice pa2 pn2 pc2, .slice la2 ln2 lc2] 75)) :
    w6.heap[w.heap.size]? = some (.cells #[.string kIndex, .int .i64 0, .string ⟨#[]⟩, .slice none 0 0, .slice (some ⟨w5.heap.size, 0, none⟩) 2 2] 75) ∧ RepE (fun b => S b ∨ w.heap.size ≤ b) w6 [.string kIndex, .int .i64 0, .string ⟨#[]⟩, .slice none 0 0, .slice (some ⟨w5.heap.size, 0, none⟩) 2 2] (mkE kIndex 0 ⟨#[]⟩ [] [e, e2]) ∧ RD w6 p g cap rk l k3 bl dp ∧ Keeps p w w6 := by
  have hb0 : Below w.heap.size w (w.alloc (.cells #[.string ⟨#[]⟩, .int .i64 0, .string ⟨#[]⟩, .slice none 0 0, .slice none 0 0] 75)) := (Below.refl _ _).alloc (Nat.le_refl _) _
  have K0 : Keeps p w (w.alloc (.cells #[.string ⟨#[]⟩, .int .i64 0, .string ⟨#[]⟩, .slice none 0 0, .slice none 0 0] 75)) := Keeps.of hb0 (by omega)
  have hs0 : (w.alloc (.cells #[.string ⟨#[]⟩, .int .i64 0, .string ⟨#[]⟩, .slice none 0 0, .slice none 0 0] 75)).heap.size = w.heap.size + 1 := by simp
  have K5 : Keeps p (w.alloc (.cells #[.string ⟨#[]⟩, .int .i64 0, .string ⟨#[]⟩, .slice none 0 0, .slice none 0 0] 75)) w5 := (Keeps.of ((Below.refl _ _).drew) (by omega)).trans K5d
  have hs5 := K5.below.size
  have hB5 := (K5.block w.heap.size (by omega) (by omega)).trans (heap_alloc_new w (.cells #[.string ⟨#[]⟩, .int .i64 0, .string ⟨#[]⟩, .slice none 0 0, .slice none 0 0] 75))
  have K := K0.trans K5
  have r1 := hrep0.same (S' := fun b => (S b ∨ w.heap.size < b)) (K.same (fun h => (hSp p h).1 rfl)) (fun b hb _ => .inl hb)
  have r2 := hrep.same (S' := fun b => (S b ∨ w.heap.size < b)) (fun _ _ _ => rfl) (fun b hb _ => .inr (by omega))
  have hnS : ¬ (S w.heap.size ∨ w.heap.size < w.heap.size) := by
    rintro (h | h)
    · have := (hSp _ h).2
      omega
    · omega
  obtain ⟨f1, f2, f3, f4⟩ := laid5 r1 R5 K hB5 hnS (by omega) (by omega) (by omega) (.string kIndex) (.int .i64 0) (.string ⟨#[]⟩) (.slice none 0 0) (.slice (some ⟨w5.heap.size, 0, none⟩) 2 2)
  obtain ⟨g1, _, _, _⟩ := laid5 r2 R5 K hB5 hnS (by omega) (by omega) (by omega) (.string kIndex) (.int .i64 0) (.string ⟨#[]⟩) (.slice none 0 0) (.slice (some ⟨w5.heap.size, 0, none⟩) 2 2)
  have hz := set5_size w5 w.heap.size (.string kIndex) (.int .i64 0) (.string ⟨#[]⟩) (.slice none 0 0) (.slice (some ⟨w5.heap.size, 0, none⟩) 2 2)
  have hr := rep_two (op := kIndex) (S' := fun b => S b ∨ w.heap.size ≤ b) f1 g1 (fun b hb => hb.imp id (fun h => by omega)) (.inr (by rw [hz]; omega))
  rw [hz] at hr
  have hba : Below (set5 w5 w.heap.size (.string kIndex) (.int .i64 0) (.string ⟨#[]⟩) (.slice none 0 0) (.slice (some ⟨w5.heap.size, 0, none⟩) 2 2)).heap.size (set5 w5 w.heap.size (.string kIndex) (.int .i64 0) (.string ⟨#[]⟩) (.slice none 0 0) (.slice (some ⟨w5.heap.size, 0, none⟩) 2 2)) w6 := by
    rw [hw]
    exact (Below.refl _ _).alloc (Nat.le_refl _) _
  rw [← hw] at hr
  exact ⟨(hba.block _ (by rw [hz]; omega)).trans f4, hr, f2.more hba, f3.trans (Keeps.of hba (by rw [hz]; omega))⟩

set_option maxHeartbeats 2000000 in
set_option maxRecDepth 100000 in
theorem postIndex_any {S : Nat → Prop} {p g cap : Nat} {rk : Value} {l : List (ByteArray × ByteArray × Nat)} {k bl dp : Nat} {a0 a1 : Addr} {o : Out (DataW Unit)} {e : DataW Unit} {op : ByteArray} {z : Int} {sx : ByteArray} {pa : Option Addr} {pn pc : Nat} {la : Option Addr} {ln lc : Nat} (ce cr : Nat)
    (h : ReadsE 125 #[.pointer (some ⟨p, 0, none⟩), .string ⟨#[93]⟩] p g cap rk l k bl dp a0 a1 o) (w : World) (R : RD w p g cap rk l k bl dp) (E : TErr p a0 a1 w) (X : RK p rk w) (hSp : ∀ b, S b → b ≠ p ∧ b < w.heap.size) (hrep0 : RepE S w [.string op, .int .i64 z, .string sx, .slice pa pn pc, .slice la ln lc] e)
    (hce : w.heap[ce]? = some (.cells #[.string op, .int .i64 z, .string sx, .slice pa pn pc, .slice la ln lc] 75)) (hcp : ce ≠ p) (hcr : w.cell? ⟨cr, 0, none⟩ = some (.pointer (some ⟨p, 0, none⟩))) :
    Calls Tryz.prog 124 #[.pointer (some ⟨ce, 0, none⟩), .pointer (some ⟨cr, 0, none⟩)] w fun ev w' => PostE (fun b => S b ∨ w.heap.size ≤ b) p g cap rk l k bl dp a0 a1 w (pIndex e o) ev w' := by
  have hpl := lt_of_heap R.blk
  have hgl := R.gl
  have hcl := lt_of_heap hce
  have hrl := lt_of_cell hcr
  have hb0 : Below w.heap.size w (w.alloc (.cells #[.string ⟨#[]⟩, .int .i64 0, .string ⟨#[]⟩, .slice none 0 0, .slice none 0 0] 75)).drew := ((Below.refl _ _).alloc (Nat.le_refl _) _).drew
  have K0 : Keeps p w (w.alloc (.cells #[.string ⟨#[]⟩, .int .i64 0, .string ⟨#[]⟩, .slice none 0 0, .slice none 0 0] 75)).drew := Keeps.of hb0 (by omega)
  have hs0 : (w.alloc (.cells #[.string ⟨#[]⟩, .int .i64 0, .string ⟨#[]⟩, .slice none 0 0, .slice none 0 0] 75)).drew.heap.size = w.heap.size + 1 := by simp
  have HN := toHid (h _ (R.more hb0) (E.keeps K0) (X.keeps K0))
  have hE0 := (K0.block ce hcp hcl).trans hce
  have hB0 : (w.alloc (.cells #[.string ⟨#[]⟩, .int .i64 0, .string ⟨#[]⟩, .slice none 0 0, .slice none 0 0] 75)).drew.heap[w.heap.size]? = some (.cells #[.string ⟨#[]⟩, .int .i64 0, .string ⟨#[]⟩, .slice none 0 0, .slice none 0 0] 75) := heap_alloc_new w (.cells #[.string ⟨#[]⟩, .int .i64 0, .string ⟨#[]⟩, .slice none 0 0, .slice none 0 0] 75)
  obtain ⟨t0, t1, t2, t3, t4, _⟩ := expr_block hce
  have HPE : Hid (∀ y ev w', o = .error y → faultAt l p a0 a1 w y ev w' → PostE (fun b => S b ∨ w.heap.size ≤ b) p g cap rk l k bl dp a0 a1 w (pIndex e o) ev w') := by
    rintro y ev w' rfl h
    exact h
  have HE0 := toHid hE0
  have HB0 := toHid hB0
  have HK0 := toHid K0
  have HR0 := toHid hrep0
  have HSP := toHid hSp
  clear h R E X hE0 hB0 K0 hb0 hrep0 hSp hce
  go_enter Tryz.func124, Tryz.ntmps124
  go_wp2_with fail
  go_region_law (first
    | (go_simp; go_at_call 125; refine HN.out.mono ?_; intro ev w5 hP; rw [hs0] at hP; rcases hP.parts with ⟨e5, k5, op5, z5, sx5, pa5, pn5, pc5, la5, ln5, lc5, q5, rfl, hrep5, R5, K5, hk5, hk5l⟩ | ⟨y, b, q5, rfl, hf⟩; rotate_left; exact ⟨rfl, HPE.out y _ _ q5 (faultAt.after HK0.out.below hf)⟩; obtain ⟨s0, s1, s2, s3, s4, sf⟩ := expr_block ((K5.block _ (by omega) (lt_of_heap HE0.out)).trans HE0.out); have hB5 := (K5.block w.heap.size (by omega) (by omega)).trans HB0.out; obtain ⟨u0, u1, u2, u3, u4, uf⟩ := expr_block hB5; have uf0 := uf 0; have uf1 := uf 1; have uf2 := uf 2; have uf3 := uf 3; have uf4 := uf 4; have ul := lt_of_heap hB5; have sl := lt_of_cell s0; have HQ5 := toHid q5; have HS := toHid (index_done hpl hgl HSP.out HR0.out K5 R5 hrep5); clear hP q5 hrep5 R5 K5 sf uf hB5))
  all_goals
    have ho5 := HQ5.out
    subst ho5
    have HZ := toHid (HS.out _ rfl)
    clear HS HPE HN
    go_wp2_with fail
    obtain ⟨z1, z2, z3, z4⟩ := HZ.out
    refine bodyPost_ret (results_expr _ 2 rfl _ _ w.heap.size _ _ _ _ _ rfl z1) rfl ?_
    exact ⟨_, _, _, _, _, rfl, z2, z3, z4, by omega, hk5l⟩
end Go.Proofs.YtpidanllncneaaaGreatDoor
