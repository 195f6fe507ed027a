/- Package lex: the walk of settle. -/
import Derived.Test.YtpidanllncneaaaGreatDoorLexGToLexI
import Derived.Shelf.LaysC
import Derived.Shelf.Strconv.ParseIntPublic10
import Derived.Shelf.Strconv.ErrVarParseInt
import Derived.Test.YtpidanllncneaaaGreatDoorProg
namespace Go.Proofs.YtpidanllncneaaaGreatDoor
open Go.RowKit
attribute [local go_sem ↓] Go.wp_at_zero Go.wp_at_succ

theorem RS.drew {B p : Nat} {s : ByteArray} {at_ : Nat} {op : List Int} {n : Nat} {tk : List Value} {w : World} (h : RS B p s at_ op n tk w) : RS B p s at_ op n tk w.drew :=
  ⟨⟨h.hA.hs, h.hA.hat, h.hA.c0, h.hA.c1, h.hA.f1⟩, h.hp, h.hpl, h.ex, h.f2, h.f3⟩

theorem rs_push {B p : Nat} {s : ByteArray} {at_ : Nat} {op : List Int} {ind : Int} {n : Nat} {tk : List Value} {w w1 : World} {g cap gn capn : Nat} {vt : Value} {o : Obj} (hA : At p s at_ w) (hp : B ≤ p) (hpl : p < w.heap.size)
    (c2 : w.cell? ⟨p, 2, none⟩ = some (.slice (some ⟨g, 0, none⟩) op.length cap)) (c3 : w.cell? ⟨p, 3, none⟩ = some vt)
    (o2 : w.ownsRow B 3 1 (.slice (some ⟨g, 0, none⟩) op.length cap) op.length (op.map (Value.int .i64))) (o3 : w.ownsRow B 61 3 vt n tk)
    (ngp : g ≠ p) (ntp : vt.ownBlock ≠ some p) (ntg : vt.ownBlock ≠ some g) (f2 : w.frozen? ⟨p, 2, none⟩ = false) (f3 : w.frozen? ⟨p, 3, none⟩ = false) (hB : B ≤ w.heap.size)
    (hown1 : w1.ownsRow B 3 1 (.slice (some ⟨gn, 0, none⟩) (op.length + 1) capn) (op.length + 1) (op.map (Value.int .i64) ++ [.int .i64 ind])) (hgrow : (w.alloc o).grownBy w1 (some g)) (hat : g = gn ∨ gn = w.heap.size + 1) :
    RS B p s at_ (op ++ [ind]) n tk (w1.setCell ⟨p, 2, none⟩ (.slice (some ⟨gn, 0, none⟩) (op.length + 1) capn)) ∧ Below B w (w1.setCell ⟨p, 2, none⟩ (.slice (some ⟨gn, 0, none⟩) (op.length + 1) capn)) := by
  have vlt : ∀ k, vt.ownBlock = some k → k < w.heap.size := fun k hk => by
    rcases o3.2 with ⟨rfl, _⟩ | ⟨g', cap', cur, rfl, _, hg', _⟩
    · simp [Value.ownBlock] at hk
    · simp [Value.ownBlock] at hk; subst hk; exact lt_of_heap hg'
  have blk : ∀ k, k < w.heap.size → g ≠ k → w1.heap[k]? = w.heap[k]? := fun k hk hne =>
    (hgrow.block k (by simp; omega) (fun e => hne (by simpa using e.symm))).trans (Below.heap_alloc _ _ _ hk)
  have bp : w1.heap[p]? = w.heap[p]? := blk p hpl ngp
  have ce : ∀ q, w1.cell? ⟨p, q, none⟩ = w.cell? ⟨p, q, none⟩ := fun q => World.cell?_of_block (w := w) (a := ⟨p, q, none⟩) bp
  have fe : ∀ q, w1.frozen? ⟨p, q, none⟩ = w.frozen? ⟨p, q, none⟩ := fun q => World.frozen?_of_block (w := w) (a := ⟨p, q, none⟩) bp
  have hgn : gn ≠ p ∧ vt.ownBlock ≠ some gn := by
    rcases hat with h | h
    · exact ⟨by rw [← h]; exact ngp, by rw [← h]; exact ntg⟩
    · exact ⟨by omega, fun e => by have := vlt _ e; omega⟩
  have hsz : w.heap.size ≤ w1.heap.size := by have := hgrow.size; simp at this; omega
  have hge : B ≤ g := own_ge o2 g rfl
  have hbel : Below B w w1 := Below.grown ((Below.refl _ _).alloc hB _) hgrow (by simp; omega) (fun k hk => by simp at hk; omega)
  refine ⟨⟨⟨hA.hs, hA.hat, ?_, ?_, ?_⟩, hp, by rw [size_set]; omega, ⟨gn, capn, vt, by rw [List.length_append]; exact World.cell?_setCell_same _ _ _ ((ce 2).trans c2), ?_, ?_, ?_, hgn.1, ntp, hgn.2⟩, ?_, ?_⟩, hbel.setCell hp _⟩
  · rw [cell_set _ _ _ _ _ (by decide), ce]; exact hA.c0
  · rw [cell_set _ _ _ _ _ (by decide), ce]; exact hA.c1
  · rw [frozen_set, fe]; exact hA.f1
  · rw [cell_set _ _ _ _ _ (by decide), ce]; exact c3
  · have h2 : (w1.setCell ⟨p, 2, none⟩ (.slice (some ⟨gn, 0, none⟩) (op.length + 1) capn)).ownsRow B 3 1 (.slice (some ⟨gn, 0, none⟩) (op.length + 1) capn) (op.length + 1) (op.map (Value.int .i64) ++ [.int .i64 ind]) :=
      ownsRow_far' hown1 (fun k hk => heap_set _ _ _ _ _ (fun e => hgn.1 (by simp [Value.ownBlock] at hk; omega)))
    simpa using h2
  · refine ownsRow_far' o3 (fun k hk => ?_)
    rw [heap_set _ _ _ _ _ (fun e => ntp (by rw [hk, e]))]
    exact blk k (vlt k hk) (fun e => ntg (by rw [hk, e]))
  · rw [frozen_set, fe]; exact f2
  · rw [frozen_set, fe]; exact f3

set_option maxHeartbeats 1000000 in
/-- settle where the line stands deeper. -/
theorem settle_in (B p : Nat) (s : ByteArray) (at_ : Nat) (l : List Int) (x ind : Int) (n : Nat) (tk : List Value) (w : World) (h : RS B p s at_ (l ++ [x]) n tk w) (hl : l.length ≤ 30000) (hn : n ≤ 50000) (hx : x < ind) :
    Calls Tryz.prog 18 #[.pointer (some ⟨p, 0, none⟩), .int .i64 ind] w fun ev w' => ev = .returned (.tuple #[]) ∧ RS B p s at_ (l ++ [x] ++ [ind]) (n + 1) (tk ++ tokCells ⟨#[105, 110, 100, 101, 110, 116]⟩ ⟨#[]⟩ at_) w' ∧ Below B w w' := by
  have hB : B ≤ w.heap.size := by have := h.hp; have := h.hpl; omega
  obtain ⟨i0, hi, hz0, hz1, hz2⟩ := info_parts infoInt
  go_enter Tryz.func18, Tryz.ntmps18
  go_wp2_with fail
  refine (inner_any _ h (by omega)).mono ?_
  rintro ev w1 ⟨rfl, q, hq⟩
  have h1 : RS B p s at_ (l ++ [x]) n tk w1 := by rw [hq]; exact h.drewN q
  have hb1 : Below B w w1 := by rw [hq]; exact below_drewN (Below.refl _ _) q
  have hB1 : B ≤ w1.heap.size := Nat.le_trans hB hb1.size
  clear hq
  obtain ⟨g, cap, vt, c2, c3, o2, o3, ngp, ntp, ntg⟩ := h1.ex
  have hpl := h1.hpl
  have hp := h1.hp
  have f2 := h1.f2
  have f3 := h1.f3
  have hA1 := h1.hA
  have c2' := c2
  have o2' := o2
  simp only [List.length_append, List.length_cons, List.length_nil] at c2 o2
  go_wp2_with (first | (at_builtin; refine wpList_append_lies _ rfl _ _ _ rfl B 3 i0 (.int .i64 0) 1 8 Tryz.underlying54 hi hz0 hz1 hz2 rfl (by decide) _ (l.length + 1) ((l ++ [x]).map (Value.int .i64)) rfl (o2.alloc _) ⟨w1.heap.size, 0, none⟩ 1 1 [.int .i64 ind] rfl rfl (cell_one_new _ _ _) (fun y hy => by simp at hy; subst hy; rfl) (by decide) (by unfold maxLen; omega) (by omega) (by simp; omega) _ rfl ?_))
  intro gn capn w2 hown2 hgrow hat hlt
  have R := rs_push (op := l ++ [x]) (ind := ind) (gn := gn) (capn := capn) hA1 hp hpl c2' c3 o2' o3 ngp ntp ntg f2 f3 hB1 (by simpa using hown2) hgrow (by simpa [Value.ownBlock] using hat)
  simp only [List.length_append, List.length_cons, List.length_nil] at R
  have e2 : w2.cell? ⟨p, 2, none⟩ = some (.slice (some ⟨g, 0, none⟩) (l.length + 1) cap) := by
    rw [hgrow.cell_far ⟨p, 2, none⟩ (by simp; omega) (fun e => ngp (by simpa [Value.ownBlock] using e.symm)), World.cell?_alloc_past _ _ _ hpl]; exact c2
  have g2 : w2.frozen? ⟨p, 2, none⟩ = false := by
    rw [hgrow.frozen_far ⟨p, 2, none⟩ (by simp; omega) (fun e => ngp (by simpa [Value.ownBlock] using e.symm)), World.frozen?_alloc_past _ _ _ hpl]; exact f2
  clear hgrow hown2 hat c2 c3 o2 o3 ntp ntg f2 f3 c2' o2'
  have hatc := R.1.hA.c1
  go_wp2_with fail
  refine (add_any B p s at_ _ n tk _ _ _ at_ R.1 (Nat.le_trans hB1 R.2.size) (by omega)).mono ?_
  rintro ev w3 ⟨rfl, h3, hb3⟩
  go_wp2_with fail
  refine bodyPost_ret (results_none rfl _ _ _) rfl ?_
  exact ⟨rfl, h3, (hb1.trans R.2).trans hb3⟩

/-- What settle comes to where the line does not stand deeper. -/
def SPost (B p : Nat) (s : ByteArray) (at_ : Nat) (st : List Int) (ind : Int) (n : Nat) (tk : List Value) (a0 : Addr) (w : World) (ev : Ending) (w' : World) : Prop :=
  if (popTo ind st).2.head? = some ind then ev = .returned (.tuple #[]) ∧ RS B p s at_ (popTo ind st).2.reverse (n + (popTo ind st).1) (tk ++ dedents at_ (popTo ind st).1) w' ∧ Below B w w'
  else Thrown B w at_ a0 ev w'

theorem SPost.yes {B p : Nat} {s : ByteArray} {at_ : Nat} {st : List Int} {ind x : Int} {xs : List Int} {n k : Nat} {tk : List Value} {a0 : Addr} {w w' : World} (hp : popTo ind st = (k, x :: xs)) (he : ind = x) (h : RS B p s at_ (x :: xs).reverse (n + k) (tk ++ dedents at_ k) w') (hb : Below B w w') : SPost B p s at_ st ind n tk a0 w (.returned (.tuple #[])) w' := by
  unfold SPost
  rw [hp, if_pos (by simp [he])]
  exact ⟨rfl, h, hb⟩
theorem SPost.no {B p : Nat} {s : ByteArray} {at_ : Nat} {st : List Int} {ind x : Int} {xs : List Int} {n k : Nat} {tk : List Value} {a0 : Addr} {w w' : World} {ev : Ending} (hp : popTo ind st = (k, x :: xs)) (he : ind ≠ x) (h : Thrown B w at_ a0 ev w') : SPost B p s at_ st ind n tk a0 w ev w' := by
  unfold SPost
  rw [hp, if_neg (by simp; exact fun e => he e.symm)]
  exact h

set_option maxHeartbeats 2000000 in
theorem settle_out (B p : Nat) (s : ByteArray) (at_ : Nat) (x : Int) (xs : List Int) (ind : Int) (n : Nat) (tk : List Value) (a0 : Addr) (w : World) (h : RS B p s at_ (x :: xs).reverse n tk w) (hl : xs.length ≤ 30000) (hn : n ≤ 40000) (hx : ¬ x < ind) (h0 : 0 ≤ ind) (hlast : (x :: xs).getLast? = some 0)
    (hgB : 2 < B) (hg : w.cell? ⟨2, 0, none⟩ = some (.iface 177 (.pointer (some a0)))) :
    Calls Tryz.prog 18 #[.pointer (some ⟨p, 0, none⟩), .int .i64 ind] w fun ev w' => SPost B p s at_ (x :: xs) ind n tk a0 w ev w' := by
  have hB : B ≤ w.heap.size := by have := h.hp; have := h.hpl; omega
  rw [List.reverse_cons] at h
  go_enter Tryz.func18, Tryz.ntmps18
  go_wp2_with fail
  refine (inner_any _ h (by simp; omega)).mono ?_
  rintro ev w1 ⟨rfl, q, hq⟩
  have h1 : RS B p s at_ (xs.reverse ++ [x]) n tk w1 := by rw [hq]; exact h.drewN q
  have hb1 : Below B w w1 := by rw [hq]; exact below_drewN (Below.refl _ _) q
  clear hq
  go_wp2_with fail
  go_loopg [] (xs.length + 1) (fun gk wr => ∃ (x1 : Int) (xs1 : List Int) (k : Nat), gk = xs1.length + 1 ∧ k + xs1.length = xs.length ∧ (x1 :: xs1).getLast? = some 0 ∧ popTo ind (x :: xs) = (k + (popTo ind (x1 :: xs1)).1, (popTo ind (x1 :: xs1)).2) ∧ RS B p s at_ (xs1.reverse ++ [x1]) (n + k) (tk ++ dedents at_ k) wr ∧ Below B w wr)
  case atStart => exact ⟨x, xs, 0, rfl, by omega, hlast, by simp, by simpa [dedents] using h1, hb1⟩
  case round =>
    obtain ⟨x1, xs1, k, hgk, hkl, hla, hpop, hr, hbr⟩ := hrel
    have HG : Hid (gk = xs1.length + 1) := hgk
    have HP : Hid (popTo ind (x :: xs) = (k + (popTo ind (x1 :: xs1)).1, (popTo ind (x1 :: xs1)).2)) := hpop
    have HL : Hid ((x1 :: xs1).getLast? = some 0) := hla
    have HLE : Hid (k + xs1.length = xs.length) := hkl
    clear hgk hpop hla h1 h hb1 hlast hkl
    have hlen : xs1.length ≤ 30000 := by have := HLE.out; omega
    have hkn : k ≤ 30000 := by have := HLE.out; omega
    go_wp2_with fail
    refine (inner_any _ hr (by simp; omega)).mono ?_
    rintro ev w2 ⟨rfl, q2, hq2⟩
    have h2 : RS B p s at_ (xs1.reverse ++ [x1]) (n + k) (tk ++ dedents at_ k) w2 := by rw [hq2]; exact hr.drewN q2
    have hb2 : Below B w w2 := by rw [hq2]; exact below_drewN hbr q2
    clear hq2 hr hbr
    by_cases hlt : ind < x1
    · obtain ⟨g, cap, c2, _⟩ := h2.top
      simp only [List.length_reverse] at c2
      have f2 := h2.f2
      have hI1 : (0 : Int) ≤ (xs1.length : Int) := by omega
      have hI2 : (xs1.length : Int) ≤ (cap : Int) := by
        obtain ⟨_, _, _, d2, _, o2, _⟩ := h2.ex
        rcases o2.2 with ⟨he, _⟩ | ⟨_, _, _, he, _, _, hle, _⟩
        · cases he
        · rw [c2] at d2
          simp at d2 he hle
          omega
      have hwr : IntKind.i64.wrap (xs1.length : Int) = (xs1.length : Int) := wrap_small _ (by omega) (by omega)
      go_wp2_with fail
      go_region
      have R := rs_pop (l := xs1.reverse) (g := g) (cap := cap) h2 (by simpa using c2)
      simp only [List.length_reverse] at R
      have R1 := R.1.drew
      have hatc := R1.hA.c1
      have hbR : Below B w (w2.setCell ⟨p, 2, none⟩ (.slice (some ⟨g, 0, none⟩) xs1.length cap)).drew := (hb2.trans R.2).drew
      go_wp2_with fail
      refine (add_any B p s at_ _ (n + k) _ _ _ _ at_ R1 (Nat.le_trans hB hbR.size) (by omega)).mono ?_
      rintro ev w3 ⟨rfl, h3, hb3⟩
      go_wp2_with fail
      cases xs1 with
      | nil =>
        have e0 : x1 = 0 := by simpa using HL.out
        omega
      | cons y ys =>
        go_roundg (ys.length + 1)
        case measure => have := HG.out; simp at this; omega
        case rel =>
          refine ⟨y, ys, k + 1, rfl, by have := HLE.out; simp at this; omega, by simpa using HL.out, ?_, ?_, hbR.trans hb3⟩
          · rw [HP.out]
            simp only [popTo, hlt, if_true]
            congr 1
            omega
          · simpa [dedents, Nat.add_assoc, List.append_assoc] using h3
    · have hpe : popTo ind (x1 :: xs1) = (0, x1 :: xs1) := by simp [popTo, hlt]
      have HPE : Hid (popTo ind (x :: xs) = (k, x1 :: xs1)) := show popTo ind (x :: xs) = (k, x1 :: xs1) by rw [HP.out, hpe]; simp
      clear hpe
      have hgw : w2.cell? ⟨2, 0, none⟩ = some (.iface 177 (.pointer (some a0))) := (hb2.cell (p := ⟨2, 0, none⟩) hgB).trans hg
      go_wp2_with fail
      refine (inner_any _ h2 (by simp; omega)).mono ?_
      rintro ev w3 ⟨rfl, q3, hq3⟩
      have h3 : RS B p s at_ (xs1.reverse ++ [x1]) (n + k) (tk ++ dedents at_ k) w3 := by rw [hq3]; exact h2.drewN q3
      have hb3 : Below B w w3 := by rw [hq3]; exact below_drewN hb2 q3
      have hgw3 : w3.cell? ⟨2, 0, none⟩ = some (.iface 177 (.pointer (some a0))) := by rw [hq3]; exact hgw
      clear hq3 hgw
      cases he : (ind != x1)
      · have hie : ind = x1 := by simpa using he
        go_wp2_with fail
        go_end0
        exact SPost.yes HPE.out hie (by simpa using h3) hb3
      · have hatc := h3.hA.c1
        go_wp2_with fail
        refine (none_any _ a0 _ hgw3).mono ?_
        rintro ev w4 ⟨rfl, rfl⟩
        go_wp2
        exact ⟨rfl, SPost.no HPE.out (by simpa using he) ⟨_, rfl, hb3.alloc (Nat.le_trans hB hb3.size) _, cell_new rfl rfl, cell_new rfl rfl⟩⟩
end Go.Proofs.YtpidanllncneaaaGreatDoor

/- The library's strconv.ParseInt at this program: the shelf's laying, and two of its contracts. -/
namespace Go.Proofs.YtpidanllncneaaaGreatDoor
open Go.Shelf Go.RowKit
def laysC174_ren : Go.Shelf.Ren := ⟨fun | 174 => 86 | 247 => 96 | 245 => 97 | 287 => 113 | 279 => 114 | 280 => 115 | 281 => 116 | 282 => 117 | 321 => 129 | 322 => 130 | 316 => 131 | 171 => 133 | 205 => 132 | 243 => 147 | 246 => 126 | 283 => 140 | 284 => 141 | 285 => 142 | 286 => 143 | 129 => 150 | 317 => 149 | 318 => 151 | 319 => 152 | 320 => 153 | 337 => 155 | 338 => 156 | n => n, fun | 9 => 9 | 3 => 3 | 2 => 2 | 75 => 25 | 85 => 133 | 4 => 4 | 167 => 148 | 5 => 5 | 53 => 149 | 175 => 150 | 46 => 152 | 168 => 153 | 37 => 48 | 0 => 0 | 210 => 162 | 21 => 21 | 127 => 176 | 145 => 179 | 143 => 177 | 171 => 165 | 173 => 168 | 212 => 182 | 51 => 183 | 20 => 20 | 213 => 184 | 232 => 189 | 233 => 190 | 80 => 108 | n => n, fun | 15 => 10 | 16 => 11 | 17 => 13 | 18 => 14 | 19 => 15 | n => n⟩
theorem laysC174 : Go.Proofs.LaysC.n174 Tryz.prog laysC174_ren := {
  mixed := by kernel_rfl
  f129 := Tryz.func150.trans (congrArg some (by kernel_rfl))
  f171 := Tryz.func133.trans (congrArg some (by kernel_rfl))
  f174 := Tryz.func86.trans (congrArg some (by kernel_rfl))
  f205 := Tryz.func132.trans (congrArg some (by kernel_rfl))
  f243 := Tryz.func147.trans (congrArg some (by kernel_rfl))
  f245 := Tryz.func97.trans (congrArg some (by kernel_rfl))
  f246 := Tryz.func126.trans (congrArg some (by kernel_rfl))
  f247 := Tryz.func96.trans (congrArg some (by kernel_rfl))
  f279 := Tryz.func114.trans (congrArg some (by kernel_rfl))
  f280 := Tryz.func115.trans (congrArg some (by kernel_rfl))
  f281 := Tryz.func116.trans (congrArg some (by kernel_rfl))
  f282 := Tryz.func117.trans (congrArg some (by kernel_rfl))
  f283 := Tryz.func140.trans (congrArg some (by kernel_rfl))
  f284 := Tryz.func141.trans (congrArg some (by kernel_rfl))
  f285 := Tryz.func142.trans (congrArg some (by kernel_rfl))
  f286 := Tryz.func143.trans (congrArg some (by kernel_rfl))
  f287 := Tryz.func113.trans (congrArg some (by kernel_rfl))
  f316 := Tryz.func131.trans (congrArg some (by kernel_rfl))
  f317 := Tryz.func149.trans (congrArg some (by kernel_rfl))
  f318 := Tryz.func151.trans (congrArg some (by kernel_rfl))
  f319 := Tryz.func152.trans (congrArg some (by kernel_rfl))
  f320 := Tryz.func153.trans (congrArg some (by kernel_rfl))
  f321 := Tryz.func129.trans (congrArg some (by kernel_rfl))
  f322 := Tryz.func130.trans (congrArg some (by kernel_rfl))
  f337 := Tryz.func155.trans (congrArg some (by kernel_rfl))
  f338 := Tryz.func156.trans (congrArg some (by kernel_rfl))
  t0 := Tryz.underlying0
  a0 := Tryz.isAgg0
  z0 := Tryz.sizeOf0
  v0 := Tryz.zeroValue0
  t2 := Tryz.underlying2
  a2 := Tryz.isAgg2
  z2 := Tryz.sizeOf2
  v2 := Tryz.zeroValue2
  t3 := Tryz.underlying3
  a3 := Tryz.isAgg3
  z3 := Tryz.sizeOf3
  v3 := Tryz.zeroValue3
  t4 := Tryz.underlying4
  a4 := Tryz.isAgg4
  z4 := Tryz.sizeOf4
  v4 := Tryz.zeroValue4
  t5 := Tryz.underlying5
  a5 := Tryz.isAgg5
  z5 := Tryz.sizeOf5
  v5 := Tryz.zeroValue5
  t9 := Tryz.underlying9
  a9 := Tryz.isAgg9
  z9 := Tryz.sizeOf9
  v9 := Tryz.zeroValue9
  t20 := Tryz.underlying20
  a20 := Tryz.isAgg20
  z20 := Tryz.sizeOf20
  v20 := Tryz.zeroValue20
  t21 := Tryz.underlying21
  a21 := Tryz.isAgg21
  z21 := Tryz.sizeOf21
  v21 := Tryz.zeroValue21
  t37 := Tryz.underlying48
  a37 := Tryz.isAgg48
  z37 := Tryz.sizeOf48
  v37 := Tryz.zeroValue48
  t46 := Tryz.underlying152
  a46 := Tryz.isAgg152
  z46 := Tryz.sizeOf152
  v46 := Tryz.zeroValue152
  t51 := Tryz.underlying183
  a51 := Tryz.isAgg183
  z51 := Tryz.sizeOf183
  v51 := Tryz.zeroValue183
  t53 := Tryz.underlying149
  a53 := Tryz.isAgg149
  z53 := Tryz.sizeOf149
  v53 := Tryz.zeroValue149
  t75 := Tryz.underlying25
  a75 := Tryz.isAgg25
  z75 := Tryz.sizeOf25
  v75 := Tryz.zeroValue25
  t85 := Tryz.underlying133
  a85 := Tryz.isAgg133
  z85 := Tryz.sizeOf133
  v85 := Tryz.zeroValue133
  t127 := Tryz.underlying176
  a127 := Tryz.isAgg176
  z127 := Tryz.sizeOf176
  v127 := Tryz.zeroValue176
  t143 := Tryz.underlying177
  a143 := Tryz.isAgg177
  z143 := Tryz.sizeOf177
  v143 := Tryz.zeroValue177
  t145 := Tryz.underlying179
  a145 := Tryz.isAgg179
  z145 := Tryz.sizeOf179
  v145 := Tryz.zeroValue179
  t167 := Tryz.underlying148
  a167 := Tryz.isAgg148
  z167 := Tryz.sizeOf148
  v167 := Tryz.zeroValue148
  t168 := Tryz.underlying153
  a168 := Tryz.isAgg153
  z168 := Tryz.sizeOf153
  v168 := Tryz.zeroValue153
  t171 := Tryz.underlying165
  a171 := Tryz.isAgg165
  z171 := Tryz.sizeOf165
  v171 := Tryz.zeroValue165
  t173 := Tryz.underlying168
  a173 := Tryz.isAgg168
  z173 := Tryz.sizeOf168
  v173 := Tryz.zeroValue168
  t175 := Tryz.underlying150
  a175 := Tryz.isAgg150
  z175 := Tryz.sizeOf150
  v175 := Tryz.zeroValue150
  t210 := Tryz.underlying162
  a210 := Tryz.isAgg162
  z210 := Tryz.sizeOf162
  v210 := Tryz.zeroValue162
  t212 := Tryz.underlying182
  a212 := Tryz.isAgg182
  z212 := Tryz.sizeOf182
  v212 := Tryz.zeroValue182
  t213 := Tryz.underlying184
  a213 := Tryz.isAgg184
  z213 := Tryz.sizeOf184
  t232 := Tryz.underlying189
  a232 := Tryz.isAgg189
  z232 := Tryz.sizeOf189
  v232 := Tryz.zeroValue189
  t233 := Tryz.underlying190
  a233 := Tryz.isAgg190
  z233 := Tryz.sizeOf190
  v233 := Tryz.zeroValue190
  g15 := by kernel_rfl
  g16 := by kernel_rfl
  g17 := by kernel_rfl
  g18 := by kernel_rfl
  g19 := by kernel_rfl
  t80 := Tryz.underlying108
  a80 := Tryz.isAgg108
  z80 := Tryz.sizeOf108
  v80 := Tryz.zeroValue108
  i0 := by kernel_rfl
  i2 := by kernel_rfl
  i3 := by kernel_rfl
  i4 := by kernel_rfl
  i5 := by kernel_rfl
  i9 := by kernel_rfl
  i20 := by kernel_rfl
  i21 := by kernel_rfl
  i37 := by kernel_rfl
  i46 := by kernel_rfl
  i51 := by kernel_rfl
  i53 := by kernel_rfl
  i75 := by kernel_rfl
  i80 := by kernel_rfl
  i85 := by kernel_rfl
  i127 := by kernel_rfl
  i143 := by kernel_rfl
  i145 := by kernel_rfl
  i167 := by kernel_rfl
  i168 := by kernel_rfl
  i171 := by kernel_rfl
  i173 := by kernel_rfl
  i175 := by kernel_rfl
  i210 := by kernel_rfl
  i212 := by kernel_rfl
  i232 := by kernel_rfl
  i233 := by kernel_rfl
  m15 := by kernel_rfl
  m16 := by kernel_rfl
  m17 := by kernel_rfl
  m18 := by kernel_rfl
  m19 := by kernel_rfl
  c0 := by kernel_rfl
  c2 := by kernel_rfl
  c3 := by kernel_rfl
  c4 := by kernel_rfl
  c5 := by kernel_rfl
  c9 := by kernel_rfl
  c20 := by kernel_rfl
  c21 := by kernel_rfl
  c37 := by kernel_rfl
  c46 := by kernel_rfl
  c51 := by kernel_rfl
  c53 := by kernel_rfl
  c75 := by kernel_rfl
  c80 := by kernel_rfl
  c85 := by kernel_rfl
  c127 := by kernel_rfl
  c143 := by kernel_rfl
  c145 := by kernel_rfl
  c167 := by kernel_rfl
  c168 := by kernel_rfl
  c171 := by kernel_rfl
  c173 := by kernel_rfl
  c175 := by kernel_rfl
  c210 := by kernel_rfl
  c212 := by kernel_rfl
  c213 := by kernel_rfl
  c232 := by kernel_rfl
  c233 := by kernel_rfl }

theorem parse_ok (s : ByteArray) (hmax : s.size ≤ 9223372036854775806) (v : Int) (h : Lib.parseIntB 64 s.data.toList = .ok v) (w : World) :
    Calls Tryz.prog 86 #[.string s, .int .i64 10, .int .i64 64] w fun e w' => e = .returned (.tuple #[.int .i64 v, .nilIface]) ∧ (w' = w ∨ ∃ t, w' = Lib.bytesWorld w 5 t) := Any.strconv_ParseInt_10_at64_ok laysC174 s hmax v h w
theorem parse_range (s : ByteArray) (hlim : s.size ≤ 281474976710656) (h : Lib.parseIntB 64 s.data.toList = .range) (tp : TypeId) (p : Value) (w : World) (hvar : w.var? Tryz.prog "strconv.ErrRange" = some #[.iface tp p]) :
    Calls Tryz.prog 86 #[.string s, .int .i64 10, .int .i64 64] w fun e w' => ∃ N, e = .returned (.tuple #[.int .i64 (Lib.intSat 64 s.data.toList), .iface 153 (.pointer (some ⟨N, 0, none⟩))]) ∧ w.heap.size ≤ N ∧ w'.heap[N]? = some (.cells #[.string ⟨#[80, 97, 114, 115, 101, 73, 110, 116]⟩, .string s, .iface tp p] 162 (0, 0)) ∧ Below w.heap.size w w' := Any.strconv_ParseInt_10_at64_range_var laysC174 s hlim h tp p w hvar
end Go.Proofs.YtpidanllncneaaaGreatDoor
