/- IDs by their serials (slices.SortFunc with known's closure), by a contract. -/
import Derived.Test.YtebhakmladbjlaaGreatDoorJnB
import Derived.Test.YtebhakmladbjlaaGreatDoorJnA
import Derived.Shelf.SlSortCmp.NoneTotal
import Derived.Test.YtebhakmladbjlaaGreatDoorJnC
import Derived.Deep.AppendLies
import Derived.Test.YtebhakmladbjlaaGreatDoorMemU
import Derived.Test.YtebhakmladbjlaaGreatDoorMemGG
import Derived.Deep.CutBlock
import Derived.Deep.RegionHeld3
namespace Go.Proofs.YtebhakmladbjlaaGreatDoor
open Go.RowKit Go.Shelf Go.Sort

def idEnc (x : Int × Int) : List Value := [.int .u64 x.1, .int .i64 x.2]
def idCmp (x y : Int × Int) : Int := Lib.compareInt x.2 y.2
theorem idLt (x y : Int × Int) : ltOf idCmp x y = decide (x.2 < y.2) := by
  unfold ltOf idCmp Lib.compareInt
  by_cases h1 : x.2 < y.2
  · simp [h1]
  · by_cases h2 : y.2 < x.2 <;> simp [h1, h2]
theorem idSWO : SWO (ltOf idCmp) where
  irrefl x := by rw [idLt]; simp
  trans x y z h1 h2 := by rw [idLt] at *; simp at *; omega
  ntrans x y z h1 h2 := by rw [idLt] at *; simp at *; omega
set_option maxHeartbeats 1000000 in
set_option maxRecDepth 100000 in
/-- known's closure. -/
theorem known_cmp (x y : Int × Int) (W : World) : Calls Tryz.prog 64 #[.agg (idEnc x).toArray, .agg (idEnc y).toArray] W fun e w' => e = .returned (.int .i64 (idCmp x y)) ∧ ∃ q os, w' = grow (W.drewN q) os := by
  obtain ⟨xa, xs⟩ := x
  obtain ⟨ya, ys⟩ := y
  have kc := fun W => scmp_Compare_int xs ys W
  show Calls Tryz.prog 64 #[.agg #[.int .u64 xa, .int .i64 xs], .agg #[.int .u64 ya, .int .i64 ys]] W fun e w' => e = .returned (.int .i64 (Lib.compareInt xs ys)) ∧ ∃ q os, w' = grow (W.drewN q) os
  generalize Lib.compareInt xs ys = r at *
  obtain ⟨w1, hw1⟩ : ∃ w1, w1 = (W.alloc (.cells #[.int .u64 xa, .int .i64 xs] 62)).alloc (.cells #[.int .u64 ya, .int .i64 ys] 62) := ⟨_, rfl⟩
  go_enter Tryz.func64, Tryz.ntmps64
  go_wp2_with (go_at_call 65; refine (kc _).mono ?_; rintro ev w2 ⟨rfl, hw2⟩; rw [hw2]; clear hw2 w2)
  go_ret
  refine ⟨rfl, 0, #[.cells #[.int .u64 xa, .int .i64 xs] 62, .cells #[.int .u64 ya, .int .i64 ys] 62], ?_⟩
  rw [alloc_eq_grow, alloc_eq_grow, grow_grow]
  rfl
theorem flat_at (d : Array (Int × Int)) (j : Nat) (hj : j < d.size) : (flatK idEnc 2 d)[j * 2]! = .int .u64 d[j]!.1 ∧ (flatK idEnc 2 d)[j * 2 + 1]! = .int .i64 d[j]!.2 := by
  rw [get_flatK _ _ _ _ (by omega), get_flatK _ _ _ _ (by omega), show j * 2 / 2 = j by omega, show j * 2 % 2 = 0 by omega, show (j * 2 + 1) / 2 = j by omega, show (j * 2 + 1) % 2 = 1 by omega]
  exact ⟨rfl, rfl⟩
theorem flat_ids (l : List (Int × Int)) : (flatK idEnc 2 l.toArray).toList = idsV l := by
  apply List.ext_getElem?
  intro i
  have hlen : (flatK idEnc 2 l.toArray).toList.length = l.length * 2 := by simp
  by_cases hi : i < l.length * 2
  · obtain ⟨x, hx⟩ : ∃ x, l[i / 2]? = some x := ⟨_, List.getElem?_eq_getElem (by omega)⟩
    have hd : l.toArray[i / 2]! = x := by simp [hx]
    have h1 := flat_at l.toArray (i / 2) (by simp; omega)
    have h2 := ids_at hx
    rw [hd] at h1
    have hg : ∀ k, k < l.length * 2 → (flatK idEnc 2 l.toArray).toList[k]? = some (flatK idEnc 2 l.toArray)[k]! := fun k hk => by
      rw [Array.getElem?_toList, Array.getElem?_eq_getElem (by simp; omega)]
      congr 1
      rw [getElem!_pos]
    rw [hg i hi]
    rcases Nat.mod_two_eq_zero_or_one i with h | h
    · have e : i = i / 2 * 2 := by omega
      rw [e, h1.1, h2.1]
    · have e : i = i / 2 * 2 + 1 := by omega
      rw [e, h1.2, h2.2]
  · rw [List.getElem?_eq_none (by omega), List.getElem?_eq_none (by rw [lenI]; omega)]
/-- A row in memory, with its block's type. -/
def RowT (t : TypeId) (w : World) (v : Value) (n : Nat) (xs : List Value) : Prop := ∃ ao cap, v = .slice ao n cap ∧ n ≤ cap ∧ (0 < n → ∃ b o cur fz, ao = some ⟨b, o, none⟩ ∧ w.heap[b]? = some (.cells cur t fz) ∧ ∀ j u, xs[j]? = some u → cur[o + j]? = some u)
theorem rowT_of {t : TypeId} {w : World} {ao : Option Addr} {n cap : Nat} {xs : List Value} (h : RowV w (.slice ao n cap) n xs) (hb : 0 < n → ∀ b o, ao = some ⟨b, o, none⟩ → ∃ cur fz, w.heap[b]? = some (.cells cur t fz)) : RowT t w (.slice ao n cap) n xs := by
  obtain ⟨_, _, e, hc, f⟩ := h
  cases e
  refine ⟨ao, cap, rfl, hc, fun hn => ?_⟩
  obtain ⟨b, o, rfl, _, g⟩ := f hn
  obtain ⟨cur, fz, hk⟩ := hb hn b o rfl
  refine ⟨b, o, cur, fz, rfl, hk, fun j u hj => ?_⟩
  have h1 := g j u hj
  simp only [World.cell?, hk] at h1
  exact h1
theorem idAgg (w : World) : (isAgg 62).run Tryz.prog w = .ok true w := by kernel_rfl
theorem idSize (w : World) : (Go.sizeOf 62).run Tryz.prog w = .ok 2 w := by kernel_rfl
/-- IDs in a row of one's own, sorted. -/
theorem sort_ids (base : Nat) (v : Value) (l : List (Int × Int)) (hl : l.length ≤ 300000) (w : World) (hown : w.ownsRow base 62 2 v l.length (idsV l)) (hbw : base ≤ w.heap.size) :
    Calls Tryz.prog 63 #[v, .func (.func 64) #[] #[]] w fun ev w' => ev = .returned (.tuple #[]) ∧ ∃ l', l'.Perm l ∧ l'.Pairwise (fun x y => ¬ y.2 < x.2) ∧ RowT 62 w' v l'.length (idsV l') ∧ Below base w w' := by
  obtain ⟨h1, h2⟩ := hown
  rcases h2 with ⟨rfl, h0⟩ | ⟨g, cap, cur, rfl, hb, hg, hc, hcm, hs, ht⟩
  · have hnil : l = [] := List.eq_nil_of_length_eq_zero h0
    subst hnil
    have h := AnyF.slices_SortFunc_none (P := Tryz.prog) (ρ := sortL_ren) sortL none 0 (.func (.func 64) #[] #[]) w
    change Calls Tryz.prog 63 _ _ _ at h
    refine h.mono ?_
    rintro ev w' ⟨rfl, rfl⟩
    exact ⟨rfl, [], List.Perm.refl _, List.Pairwise.nil, ⟨none, 0, rfl, Nat.le_refl _, fun h => absurd h (by simp)⟩, Below.refl _ _⟩
  · have hcell : ∀ j u, (idsV l)[j]? = some u → w.cell? ⟨g, j, none⟩ = some u := fun j u hj => by
      rw [← ht, List.getElem?_take] at hj
      split at hj
      · rw [cell_of_row _ _ _ _ _ _ hg, ← Array.getElem?_toList]
        exact hj
      · cases hj
    have hH : HoldsK idEnc 2 w g 0 l.toArray := fun j hj => by
      refine ⟨?_, Lib.frozen_of_heap hg _⟩
      rw [Nat.zero_add]
      refine hcell j _ ?_
      rw [← flat_ids, Array.getElem?_toList, Array.getElem?_eq_getElem hj, getElem!_pos (flatK idEnc 2 l.toArray) j hj]
      rfl
    have eg : ∀ args w, (callFunc 64 args).run Tryz.prog w = .ok (.enter 64 args) w := fun args w => by kernel_rfl
    have h := AnyQ.slices_SortFunc (P := Tryz.prog) (ρ := sortL_ren) sortL 2 idAgg idSize idEnc (fun _ => rfl) (fun x v hv => by simp [idEnc] at hv; rcases hv with rfl | rfl <;> rfl) idCmp idSWO 64 #[] g 0 cap l.toArray w eg (fun m os dk _ x y => known_cmp x y _) hH (lt_of_heap hg) (by simp; omega)
    change Calls Tryz.prog 63 _ _ _ at h
    rw [List.size_toArray] at h
    refine h.mono ?_
    rintro ev w' ⟨rfl, d', n, os, hp, hsrt, rfl⟩
    have hds : d'.size = l.length := by rw [hp.1, List.size_toArray]
    have hperm : d'.toList.Perm l := by
      have h3 := hp.2.2
      rw [show d'.extract 0 l.length = d' by rw [← hds]; simp, show l.toArray.extract 0 l.length = l.toArray by simp] at h3
      exact h3
    have hpw : d'.toList.Pairwise (fun x y => ¬ y.2 < x.2) := by
      rw [List.pairwise_iff_getElem]
      intro i j hi hj hij hlt
      have h3 := hsrt i j (Nat.zero_le _) hij (by rw [← hds]; simpa using hj)
      rw [idLt] at h3
      have hi' : i < d'.size := by simpa using hi
      have hj' : j < d'.size := by simpa using hj
      rw [getElem!_pos d' i hi', getElem!_pos d' j hj'] at h3
      have := of_decide_eq_false h3
      simp only [Array.getElem_toList] at hlt
      omega
    refine ⟨rfl, d'.toList, hperm, hpw, ?_, ?_⟩
    · have hl' : d'.toList.length = l.length := by simpa using hds
      rw [hl']
      refine rowT_of ?_ (fun _ b o hbo => ?_)
      rotate_left
      · cases hbo
        refine ⟨putCells id 0 (flatK idEnc 2 d') cur, (0, 0), ?_⟩
        unfold sortWorldK
        rw [heap_grow_old _ _ (by rw [size_putRowK]; exact lt_of_heap hg)]
        simp [putRowK, putRow, mapBlock, Sort.ahead, Array.getElem?_modify, hg, onCells]
      refine ⟨_, _, rfl, hc, fun _ => ⟨g, 0, rfl, ?_, fun j u hj => ?_⟩⟩
      · unfold sortWorldK
        rw [size_grow, size_putRowK]
        have := lt_of_heap hg
        show g < w.heap.size + _
        omega
      · unfold sortWorldK
        rw [cell?_grow _ _ _ (by rw [size_putRowK]; exact lt_of_heap hg)]
        have hjl : j < (flatK idEnc 2 d').size := by
          have := (List.getElem?_eq_some_iff.1 hj).1
          rw [lenI, hl'] at this
          rw [size_flatK, hds]
          omega
        have h3 := cell?_putRow (id : Value → Value) (Sort.ahead w n) g 0 (flatK idEnc 2 l.toArray) (flatK idEnc 2 d') (fun j hj => hH j hj) (by simp [hds]) j hjl
        rw [show putRowK idEnc 2 (Sort.ahead w n) g 0 d' = putRow id (Sort.ahead w n) g 0 (flatK idEnc 2 d') from rfl, h3]
        rw [← flat_ids, Array.toArray_toList, Array.getElem?_toList, Array.getElem?_eq_getElem hjl] at hj
        rw [getElem!_pos (flatK idEnc 2 d') j hjl]
        cases hj
        rfl
    · unfold sortWorldK
      have hb1 : Below base w (putRowK idEnc 2 (Sort.ahead w n) g 0 d') := ⟨rfl, rfl, rfl, by rw [size_putRowK]; exact Nat.le_refl _, fun k hk => by
        simp [putRowK, putRow, mapBlock, Sort.ahead, Array.getElem?_modify, show g ≠ k by omega]⟩
      exact hb1.trans (Lib.below_grow base _ (by rw [size_putRowK]; exact hbw) 0 os)
end Go.Proofs.YtebhakmladbjlaaGreatDoor

/- IDs whose objects were come to, by their serials (known), by a contract. -/
namespace Go.Proofs.YtebhakmladbjlaaGreatDoor
open Go.RowKit Go.Maps

theorem infoID : ∃ i0, Tryz.prog.info? 62 = some i0 ∧ i0.zero = some (.agg #[.int .u64 0, .int .i64 0]) ∧ i0.size = 2 ∧ i0.bytes = 16 := info_parts (by kernel_rfl)
/-- Was its object come to? -/
def hasI (out : List Nat) (x : Int × Int) : Bool := decide (0 ≤ objI out (ptI x.1))
theorem has_of {D : DataW Unit} {out : List Nat} (hD : GNum D out) {nH : Nat} {hb : Nat → Bool} {x : Int} (hn : nH ≤ 300000) (h : ptrB nH hb x = true) : Maps.has D (.int .u64 x) = decide (0 ≤ objI out (ptI x)) := by
  unfold ptrB at h
  simp only [Bool.and_eq_true, decide_eq_true_eq] at h
  obtain ⟨f, hf⟩ : ∃ f : Nat, x = ((f : Int) + 1) * 4 := ⟨(x / 4 - 1).toNat, by omega⟩
  have hpt : ptI x = (f : Int) := by
    unfold ptI
    rw [if_pos (by omega)]
    omega
  rw [hpt, hf, hD.has]
  by_cases hm : f ∈ out
  · rw [decide_eq_true hm, decide_eq_true (objI_mem.2 hm)]
  · rw [decide_eq_false hm, decide_eq_false (fun h => hm (objI_mem.1 h))]
theorem idsV_snoc (l : List (Int × Int)) (x : Int × Int) : idsV (l ++ [x]) = idsV l ++ [.int .u64 x.1, .int .i64 x.2] := by simp [idsV]
theorem filter_step {I : List (Int × Int)} {p : Int × Int → Bool} {k : Nat} {x : Int × Int} (h : I[k]? = some x) : (I.take (k + 1)).filter p = (I.take k).filter p ++ (if p x then [x] else []) := by
  rw [List.take_add_one, h, List.filter_append]
  cases hp : p x <;> simp [hp]
/-- What known hands back. -/
def KnownPost (out : List Nat) (I : List (Int × Int)) (w : World) (ev : Ending) (w' : World) : Prop := ∃ v, ev = .returned v ∧ RowT 62 w' v ((ordI I).filter (hasI out)).length (idsV ((ordI I).filter (hasI out))) ∧ Below w.heap.size w w'
set_option maxHeartbeats 4000000 in
set_option maxRecDepth 100000 in
theorem known_any (bm n ol oc nH : Nat) (hbf : Nat → Bool) (hnH : nH ≤ 300000) (oo : Option Addr) (D : DataW Unit) (out : List Nat) (hD : GNum D out) (I : List (Int × Int)) (h64 : Ids64 I) (hok : idsB nH hbf I = true) (hl : I.length ≤ 300000) (ao : Option Addr) (cap : Nat) (w : World) (hM : w.ownsMap Tryz.prog 57 (plainElem Tryz.prog 3) bm n D) (hR : RowV w (.slice ao I.length cap) I.length (idsV I)) :
    Calls Tryz.prog 30 #[.agg #[.slice oo ol oc, .map (some bm)], .slice ao I.length cap] w (KnownPost out I w) := by
  have HD := toHid hD
  have HM := toHid hM
  have HR := toHid hR
  have H6 := toHid h64
  have HK := toHid hok
  obtain ⟨i0, hi0, hz0, hz1, hz2⟩ := infoID
  obtain ⟨PP, hPP⟩ : ∃ PP, PP = KnownPost out I w := ⟨_, rfl⟩
  rw [← hPP]
  have HPP := toHid hPP
  clear hD hM hR h64 hok hPP
  go_enter Tryz.func30, Tryz.ntmps30
  go_upto_block 0 with fail
  obtain ⟨w1, hw1⟩ : ∃ w1, w1 = w.alloc (.cells #[.slice oo ol oc, .map (some bm)] 77) := ⟨_, rfl⟩
  obtain ⟨q, hq⟩ : ∃ q, q = w.heap.size := ⟨_, rfl⟩
  have gb : w1.heap[q]? = some (.cells #[.slice oo ol oc, .map (some bm)] 77) := by rw [hw1, hq]; exact heap_alloc_new _ _
  have b1 : Below w.heap.size w w1 := by rw [hw1]; exact (Below.refl _ _).alloc (Nat.le_refl _) _
  have g1 : w1.cell? ⟨q, 1, none⟩ = some (.map (some bm)) := by rw [cell_of_row _ _ 1 _ _ _ gb]; rfl
  rw [← hw1, ← hq]
  have HG1 := toHid g1
  have HB1 := toHid b1
  have HM1 := toHid (own_kept3 HM.out b1)
  have HR1 := toHid (HR.out.below b1)
  clear hw1 hq gb b1 g1 HM HR
  go_wp2_with fail
  go_loopg [5, 12] (I.length + 1) (fun gk vo vi wr => ∃ (k ml cp : Nat) (oa : Option Addr), gk = I.length + 1 - k ∧ k ≤ I.length ∧ vi = .int .i64 (k : Int) ∧ vo = .slice oa ml cp ∧ Below w1.heap.size w1 wr ∧ Hid (ml = ((I.take k).filter (hasI out)).length) ∧ Hid (wr.ownsRow w1.heap.size 62 2 (.slice oa ml cp) ((I.take k).filter (hasI out)).length (idsV ((I.take k).filter (hasI out)))))
  case atStart => exact ⟨0, 0, 0, none, rfl, Nat.zero_le _, rfl, rfl, Below.refl _ _, rfl, World.ownsRow_nil _ _ _ _⟩
  case round =>
    obtain ⟨k, ml, cp, oa, hgk, hk, rfl, rfl, hb, hml0, hown⟩ := hrel
    have HG := toHid hgk
    have hk0 : (0 : Int) ≤ (k : Int) := by omega
    have HB := toHid hb
    clear hgk hb
    by_cases hlt : k < I.length
    · have hI : (k : Int) < (I.length : Int) := by omega
      obtain ⟨⟨xa, xs⟩, hx⟩ : ∃ x, I[k]? = some x := ⟨_, List.getElem?_eq_getElem hlt⟩
      obtain ⟨_, _, e, _, f1⟩ := HR1.out
      cases e
      obtain ⟨p1, o1, rfl, l1, g1⟩ := f1 (by omega)
      have r0 : wr.cell? ⟨p1, o1 + k * 2, none⟩ = some (.int .u64 xa) := (HB.out.cell (p := ⟨p1, o1 + k * 2, none⟩) l1).trans (g1 (k * 2) _ (ids_at hx).1)
      have r1 : wr.cell? ⟨p1, o1 + k * 2 + 1, none⟩ = some (.int .i64 xs) := (HB.out.cell (p := ⟨p1, o1 + k * 2 + 1, none⟩) l1).trans (g1 (k * 2 + 1) _ (ids_at hx).2)
      have hx64 := H6.out _ (List.mem_of_getElem? hx)
      simp only at hx64
      have hkx : Hid (keyOf Tryz.prog 57 (.int .u64 xa) = some (.int .u64 xa)) := keyOf_int_mk Tryz.underlying57 (wf_u hx64.1.1 hx64.1.2)
      have hhas := has_of HD.out hnH (ids_ptr HK.out _ (List.mem_of_getElem? hx))
      have HST : Hid ((I.take (k + 1)).filter (hasI out) = (I.take k).filter (hasI out) ++ (if hasI out (xa, xs) then [(xa, xs)] else [])) := filter_step hx
      have hml : ((I.take k).filter (hasI out)).length ≤ 300000 := Nat.le_trans (List.length_filter_le _ _) (by rw [List.length_take]; omega)
      generalize (I.take k).filter (hasI out) = M at *
      have hmm := hml0.out
      subst hmm
      go_upto_region 5 with fail
      obtain ⟨w2, hw2⟩ : ∃ w2, w2 = wr.alloc (.cells #[.int .u64 xa, .int .i64 xs] 62) := ⟨_, rfl⟩
      obtain ⟨q2, hq2⟩ : ∃ q2, q2 = wr.heap.size := ⟨_, rfl⟩
      have ob2 : w2.heap[q2]? = some (.cells #[.int .u64 xa, .int .i64 xs] 62) := by rw [hw2, hq2]; exact heap_alloc_new _ _
      have b2 : Below w1.heap.size w1 w2 := by rw [hw2]; exact HB.out.alloc HB.out.size _
      have own2 : Hid (w2.ownsRow w1.heap.size 62 2 (.slice oa M.length cp) M.length (idsV M)) := by rw [hw2]; exact hown.out.alloc _
      have c20 : w2.cell? ⟨q2, 0, none⟩ = some (.int .u64 xa) := by rw [cell_of_row _ _ 0 _ _ _ ob2]; rfl
      have c21 : w2.cell? ⟨q2, 1, none⟩ = some (.int .i64 xs) := by rw [cell_of_row _ _ 1 _ _ _ ob2]; rfl
      have gg : w2.cell? ⟨q, 1, none⟩ = some (.map (some bm)) := (b2.cell (p := ⟨q, 1, none⟩) (lt_of_cell HG1.out)).trans HG1.out
      rw [← hw2, ← hq2]
      have HM2 := toHid (own_kept3 HM1.out b2)
      have HB2 := toHid b2
      clear hw2 hq2 ob2 b2 f1 g1 hx hown r0 r1 hx64
      cases hh : decide (0 ≤ objI out (ptI xa)) with
      | true =>
        rw [hh] at hhas
        have hst : Hid (hasI out (xa, xs) = true) := hh
        clear hh
        go_wp2_with (first | (at_lookup; refine wpList_lookup_own_ok_int _ rfl _ _ 75 rfl 57 3 .i64 lawU Tryz.underlying75 Tryz.underlying3 (zeroI _) bm n _ rfl HM2.out _ _ rfl hkx.out ?_; intro c0 hat hwc; clear hat hwc) | (at_builtin; refine wpList_append_lies _ rfl _ _ _ rfl w1.heap.size 62 i0 (.agg #[.int .u64 0, .int .i64 0]) 2 16 Tryz.underlying43 hi0 hz0 hz1 hz2 rfl (by decide) (.slice oa M.length cp) M.length (idsV M) rfl (own2.out.alloc _) ⟨w2.heap.size, 0, none⟩ 1 1 [.int .u64 xa, .int .i64 xs] rfl rfl (World.news_of_block (cs := #[.int .u64 xa, .int .i64 xs]) (t := 62) (heap_alloc_new _ _)) (fun u hu => by simp at hu; rcases hu with rfl | rfl <;> rfl) (by decide) (by unfold maxLen; omega) (by omega) (by have := HB2.out.size; simp; omega) _ rfl ?_; intro g' cap' w3 hown3 hgrow3 hat3 hlt3))
        go_roundg (I.length + 1 - (k + 1))
        case measure => have := HG.out; omega
        case rel =>
          refine ⟨k + 1, M.length + 1, cap', some ⟨g', 0, none⟩, rfl, by omega, by go_num, rfl, (HB2.out.alloc HB2.out.size _).grown hgrow3 (by have := HB2.out.size; simp; omega) (fun k hk => (own_lt2 own2.out k hk).1), ?_, ?_⟩
          · show _ = _
            rw [HST.out, hst.out]
            simp
          · show World.ownsRow _ _ _ _ _ _ _
            rw [HST.out, hst.out, if_pos rfl, idsV_snoc, List.length_append]
            exact hown3
      | false =>
        rw [hh] at hhas
        have hst : Hid (hasI out (xa, xs) = false) := hh
        clear hh
        go_wp2_with (first | (at_lookup; refine wpList_lookup_own_ok_int _ rfl _ _ 75 rfl 57 3 .i64 lawU Tryz.underlying75 Tryz.underlying3 (zeroI _) bm n _ rfl HM2.out _ _ rfl hkx.out ?_; intro c0 hat hwc; clear hat hwc))
        go_roundg (I.length + 1 - (k + 1))
        case measure => have := HG.out; omega
        case rel => exact ⟨k + 1, M.length, cp, oa, rfl, by omega, by go_num, rfl, HB2.out, by show _ = _; rw [HST.out, hst.out]; simp, by show World.ownsRow _ _ _ _ _ _ _; rw [HST.out, hst.out]; simpa using own2.out⟩
    · have hI : ¬ (k : Int) < (I.length : Int) := by omega
      have hkk : k = I.length := by omega
      have hown2 := hown.out
      have hml2 := hml0.out
      rw [hkk, List.take_of_length_le (Nat.le_refl _)] at hown2 hml2
      have hfl : (I.filter (hasI out)).length ≤ 300000 := Nat.le_trans (List.length_filter_le _ _) hl
      have ks := sort_ids w1.heap.size _ (I.filter (hasI out)) hfl wr hown2 HB.out.size
      have HB3 := toHid (HB1.out.trans (HB.out.mono HB1.out.size))
      have hbs : w.heap.size ≤ w1.heap.size := HB1.out.size
      clear hown2 hml2 hkk hown hml0 hfl
      go_wp2_with fail
      refine ks.mono ?_
      rintro ev w4 ⟨rfl, l', hp, hs, hrow, hb4⟩
      have HE : Hid (PP (.returned (.slice oa ml cp)) w4) := by
        rw [HPP.out]
        have e := ord_filter (ids_ok HK.out) (hasI out) hp (hs.imp (fun h => by omega))
        rw [e] at hrow
        exact ⟨_, rfl, hrow, HB3.out.trans (hb4.mono hbs)⟩
      clear hp hs hrow hb4 ks
      go_wp2_with fail
      exact HE.out
end Go.Proofs.YtebhakmladbjlaaGreatDoor

/- Package mem: survey of every memory, where three errors of package api are known. -/
namespace Go.Proofs.YtebhakmladbjlaaGreatDoor
open Go.RowKit

/-- What survey, Get and Put want of memory: three errors of package api. -/
structure MErr3 (a : Nat → Addr) (w : World) : Prop where
  c1 : w.cell? ⟨0, 0, none⟩ = some (.iface 218 (.pointer (some (a 1))))
  c2 : w.cell? ⟨2, 0, none⟩ = some (.iface 218 (.pointer (some (a 2))))
  c4 : w.cell? ⟨4, 0, none⟩ = some (.iface 218 (.pointer (some (a 4))))
theorem MErr3.below {a : Nat → Addr} {w w' : World} (E : MErr3 a w) (hb : Below w.heap.size w w') : MErr3 a w' where
  c1 := (hb.cell (p := ⟨0, 0, none⟩) (lt_of_cell E.c1)).trans E.c1
  c2 := (hb.cell (p := ⟨2, 0, none⟩) (lt_of_cell E.c2)).trans E.c2
  c4 := (hb.cell (p := ⟨4, 0, none⟩) (lt_of_cell E.c4)).trans E.c4
theorem MErr3.we {a : Nat → Addr} {w : World} (E : MErr3 a w) : WErr a w := ⟨E.c1, E.c2⟩
theorem MErr.three {a : Nat → Addr} {w : World} (E : MErr a w) : MErr3 a w := ⟨E.c1, E.c2, E.c4⟩
theorem survey_nil3 (a : Nat → Addr) (w : World) (E : MErr3 a w) :
    Calls Tryz.prog 24 #[.pointer none] w fun ev w' => ev = .returned (.tuple #[.slice none 0 0, errV a 2]) ∧ Below w.heap.size w w' := by
  have hn := shaped_nil w
  have HE := toHid E
  go_enter Tryz.func24, Tryz.ntmps24
  go_wp2_with fail
  refine hn.mono ?_
  rintro ev w1 ⟨rfl, q, hq⟩
  have hb1 : Below w.heap.size w w1 := by rw [hq]; exact below_drewN (Below.refl _ _)
  clear hq
  have k2 := (HE.out.below hb1).c2
  go_wp2_with fail
  go_quiet (fail)
  go_wp2
  go_ret2
  exact ⟨rfl, below_drewN hb1⟩
set_option maxHeartbeats 2000000 in
set_option maxRecDepth 100000 in
theorem survey_unfit3 (a : Nat → Addr) (p : Nat) (m : MD) (hF : ¬ m.FitsM) (w : World) (E : MErr3 a w) (R : RepP p m w) :
    Calls Tryz.prog 24 #[.pointer (some ⟨p, 0, none⟩)] w fun ev w' => ev = .returned (.tuple #[.slice none 0 0, errV a 2]) ∧ Below w.heap.size w w' := by
  obtain ⟨_, vR, vK, vI, _, hp, M, ⟨aW, cW, rfl, _⟩, _, _, _, ⟨aC, cC, rfl, _⟩⟩ := R
  have km := measured_no p m.half m.old m.card m.W.length m.C.length cW cC aW aC m.used m.top m.oldTop vR vK vI hF w M
  go_enter Tryz.func24, Tryz.ntmps24
  go_wp2_with fail
  refine km.mono ?_
  rintro ev w1 ⟨rfl, q, hq⟩
  have hb1 : Below w.heap.size w w1 := by rw [hq]; exact below_drewN (Below.refl _ _)
  have k2 := (E.below hb1).c2
  clear hq M km
  go_wp2_with fail
  go_quiet (fail)
  go_wp2
  go_ret2
  exact ⟨rfl, below_drewN hb1⟩
set_option maxHeartbeats 8000000 in
set_option maxRecDepth 100000 in
theorem survey_fit3 (a : Nat → Addr) (p : Nat) (m : MD) (hF : m.FitsM) (h64 : MD64 m) (bR : m.R.length ≤ 300000) (bK : m.K.length ≤ 300000) (bI : m.I.length ≤ 300000) (w : World) (E : MErr3 a w) (R : RepP p m w) :
    Calls Tryz.prog 24 #[.pointer (some ⟨p, 0, none⟩)] w fun ev w' => SurveyPost a m w ev w' := by
  obtain ⟨_, _, _, _, _, hp, M, ⟨aW, cW, rfl, hcW, fW⟩, ⟨aR, cR, rfl, fR⟩, ⟨aK, cK, rfl, fK⟩, ⟨aI, cI, rfl, fI⟩, ⟨aC, cC, rfl, hcC, fC⟩⟩ := R
  have hnum := hF.nums
  have hwl := hF.w
  have hcl := hF.c
  unfold numsOK at hnum
  have hn : m.W.length ≤ 300000 := by omega
  have hcp : 0 < m.C.length := by
    have : 1 ≤ (m.old + m.card - 1) / m.card := (Int.le_ediv_iff_mul_le (by omega)).2 (by omega)
    omega
  obtain ⟨b, rfl, lb, gW⟩ := fW (by omega)
  obtain ⟨bc, rfl, lbc, gC⟩ := fC hcp
  have L := looked_of hF h64 M hcW gW gC
  have HL := toHid L
  have HRr : Hid (RowV w (.slice aR m.R.length cR) m.R.length (wordsV m.R)) := ⟨_, _, rfl, fR⟩
  have HRk : Hid (RowV w (.slice aK m.K.length cK) m.K.length (wordsV m.K)) := ⟨_, _, rfl, fK⟩
  have HRi : Hid (RowV w (.slice aI m.I.length cI) m.I.length (idsV m.I)) := ⟨_, _, rfl, fI⟩
  have HM := toHid M
  have HE := toHid E
  have HP := toHid (MD.parts hF)
  have H64 := toHid h64
  have HF := toHid hF
  have hmk := make_heads m.W.length (by omega) (m.W.length : Int) rfl
  have km := measured_ok p m.half m.old m.card m.W.length m.C.length cW cC _ _ m.used m.top m.oldTop _ _ _ hF w M
  clear fR fK fI gW gC hnum hwl hcl L M hF h64 fW fC
  go_enter Tryz.func24, Tryz.ntmps24
  go_wp2_with fail
  refine km.mono ?_
  rintro ev w1 ⟨rfl, q, hq⟩
  have hb1 : Below w.heap.size w w1 := by rw [hq]; exact below_drewN (Below.refl _ _)
  clear hq km
  have d3 := (HM.out.below hb1 hp).c3
  go_wp2_with fail
  have hb2 : Below w.heap.size w (w1.alloc (.cells (Array.replicate m.W.length (.bool false)) 4)) := hb1.alloc hb1.size _
  have hlo := hb1.size
  have kf := findHeads_any a w _ p b bc w1.heap.size m.W.length m.C.length cW cC m.half m.old m.card m.used m.top m.oldTop _ _ _ m.F m.Cf m.n0 m.n1 m.m0 m.m1 HP.out HL.out HE.out.we hb2 (marks_new w1 m.W.length) hlo
  clear d3 hb2
  cases ho : m.objs with
  | none =>
    rw [objs_none ho] at kf
    have HS : Hid (∀ vs, ¬ m.Shape vs) := fun vs h => by have := h.2.1; rw [ho] at this; cases this
    refine kf.mono ?_
    rintro ev w2 ⟨rfl, vs, hb3, _, _⟩
    have k2 := (HE.out.below hb3).c2
    clear kf ho
    go_wp2_with fail
    go_quiet (fail)
    go_wp2
    go_ret2
    exact ⟨below_drewN hb3, .inr (.inr ⟨HS.out, rfl⟩)⟩
  | some vs =>
    obtain ⟨l1, l2, e1, e2, e3⟩ := objs_some ho
    rw [e1, e2] at kf
    have HO := toHid ho
    refine kf.mono ?_
    rintro ev w2 ⟨rfl, vs', hb3, hm3, hvs⟩
    obtain rfl : vs' = vs := (hvs l1 l2 rfl rfl).trans e3.symm
    clear kf ho e1 e2 e3 hvs
    have kh := holdFields_any a w w2 p b bc w1.heap.size m.W.length m.C.length cW cC m.half m.old m.card m.used m.top m.oldTop _ _ _ m.F m.Cf m.n0 m.n1 m.m0 m.m1 HP.out HL.out HE.out.we vs' hb3 hm3 hlo
    have eh : ((walkP m.F (G2 m.F m.W.length (fun i => decide (i ∈ vs'))) (m.n1 - m.n0) m.n0 m.n1).isSome && (walkP m.F (G2 m.F m.W.length (fun i => decide (i ∈ vs'))) (m.m1 - m.m0) m.m0 m.m1).isSome) = m.holdB vs' := rfl
    rw [eh] at kh
    clear eh hb3 hm3
    go_wp2_with fail
    refine kh.mono ?_
    rintro ev w3 ⟨rfl, hb4, hm4⟩
    clear kh
    cases hh : m.holdB vs' with
    | false =>
      have HS : Hid (∀ vs, ¬ m.Shape vs) := fun vs h => by
        have e := h.2.1
        rw [HO.out] at e
        cases e
        have e := h.2.2.1
        rw [hh] at e
        cases e
      have k2 := (HE.out.below hb4).c2
      clear HO
      go_wp2_with fail
      go_quiet (fail)
      go_wp2
      go_ret2
      exact ⟨below_drewN hb4, .inr (.inr ⟨HS.out, rfl⟩)⟩
    | true =>
      have HH := toHid hh
      clear hh
      have d7 := (HM.out.below hb4 hp).c7
      have kr := holdAll_any a w1.heap.size m.W.length (fun i => decide (i ∈ vs')) hn m.R bR H64.out.r aR cR w3 (HE.out.below hb4).we hm4.heads hm4.lt (HRr.out.below hb4)
      go_wp2_with fail
      refine kr.mono ?_
      rintro ev w4 ⟨rfl, hb5⟩
      have hb6 := hb4.trans (hb5.mono hb4.size)
      have hm6 := hm4.below hb5
      clear kr hb4 hb5 hm4 d7
      cases hr : m.R.all (fieldB m.W.length (fun i => decide (i ∈ vs'))) with
      | false =>
        have HS : Hid (∀ vs, ¬ m.Shape vs) := fun vs h => by
          have e := h.2.1
          rw [HO.out] at e
          cases e
          have e := h.2.2.2
          unfold MD.restB at e
          rw [hr] at e
          cases e
        have k2 := (HE.out.below hb6).c2
        clear HO
        go_wp2_with fail
        go_quiet (fail)
        go_wp2
        go_ret2
        exact ⟨below_drewN hb6, .inr (.inr ⟨HS.out, rfl⟩)⟩
      | true =>
        have HR := toHid hr
        clear hr
        have d8 := (HM.out.below hb6 hp).c8
        have kr := holdAll_any a w1.heap.size m.W.length (fun i => decide (i ∈ vs')) hn m.K bK H64.out.k aK cK w4 (HE.out.below hb6).we hm6.heads hm6.lt (HRk.out.below hb6)
        go_wp2_with fail
        refine kr.mono ?_
        rintro ev w5 ⟨rfl, hb7⟩
        have hb8 := hb6.trans (hb7.mono hb6.size)
        have hm8 := hm6.below hb7
        clear kr hb6 hb7 hm6 d8
        cases hk : m.K.all (fieldB m.W.length (fun i => decide (i ∈ vs'))) with
        | false =>
          have HS : Hid (∀ vs, ¬ m.Shape vs) := fun vs h => by
            have e := h.2.1
            rw [HO.out] at e
            cases e
            have e := h.2.2.2
            unfold MD.restB at e
            rw [HR.out, hk] at e
            cases e
          have k2 := (HE.out.below hb8).c2
          clear HO
          go_wp2_with fail
          go_quiet (fail)
          go_wp2
          go_ret2
          exact ⟨below_drewN hb8, .inr (.inr ⟨HS.out, rfl⟩)⟩
        | true =>
          have HK := toHid hk
          clear hk
          have d9 := (HM.out.below hb8 hp).c9
          have kr := holdIDs_any a w1.heap.size m.W.length (fun i => decide (i ∈ vs')) hn m.I bI H64.out.i aI cI w5 (HE.out.below hb8).we hm8.heads hm8.lt (HRi.out.below hb8)
          go_wp2_with fail
          refine kr.mono ?_
          rintro ev w6 ⟨rfl, hb9⟩
          have hb10 := hb8.trans (hb9.mono hb8.size)
          have hm10 := hm8.below hb9
          clear kr hb8 hb9 hm8 d9
          cases hi : idsB m.W.length (fun i => decide (i ∈ vs')) m.I with
          | false =>
            have HS : Hid (∀ vs, ¬ m.Shape vs) := fun vs h => by
              have e := h.2.1
              rw [HO.out] at e
              cases e
              have e := h.2.2.2
              unfold MD.restB at e
              rw [HR.out, HK.out, hi] at e
              cases e
            have k2 := (HE.out.below hb10).c2
            clear HO
            go_wp2_with fail
            go_quiet (fail)
            go_wp2
            go_ret2
            exact ⟨below_drewN hb10, .inr (.inr ⟨HS.out, rfl⟩)⟩
          | true =>
            have HSh : Hid (m.Shape vs') := ⟨HF.out, HO.out, HH.out, by unfold MD.restB; rw [HR.out, HK.out, hi]; rfl⟩
            clear hi HR HK HH HO
            have kc := carded_any a w6 w6 p b bc m.W.length m.C.length cW cC m.half m.old m.card m.used m.top m.oldTop _ _ _ m.F m.Cf m.n0 m.n1 m.m0 m.m1 HP.out (HL.out.below hb10) (HE.out.below hb10).we (Below.refl _ _)
            have ec : (walkP m.F (G3 m.F m.Cf m.half m.card) (m.m1 - m.m0) m.m0 m.m1).isSome = m.cardsB := rfl
            rw [ec] at kc
            clear ec
            go_wp2_with fail
            refine kc.mono ?_
            rintro ev w7 ⟨rfl, hb11⟩
            have hb12 := hb10.trans (hb11.mono hb10.size)
            have hm12 := hm10.below hb11
            clear kc hb10 hb11 hm10
            cases hc : m.cardsB with
            | true =>
              have HC := toHid hc
              clear hc
              go_wp2_with fail
              go_ret2
              exact ⟨hb12, .inl ⟨vs', _, HSh.out, HC.out, rfl, hm12, hlo⟩⟩
            | false =>
              have HC := toHid hc
              have k4 := (HE.out.below hb12).c4
              clear hc
              go_wp2_with fail
              go_quiet (fail)
              go_wp2
              go_ret2
              exact ⟨below_drewN hb12, .inr (.inl ⟨vs', HSh.out, HC.out, rfl⟩)⟩
theorem survey_any3 (a : Nat → Addr) (p : Nat) (m : MD) (h64 : MD64 m) (bR : m.R.length ≤ 300000) (bK : m.K.length ≤ 300000) (bI : m.I.length ≤ 300000) (w : World) (E : MErr3 a w) (R : RepP p m w) :
    Calls Tryz.prog 24 #[.pointer (some ⟨p, 0, none⟩)] w fun ev w' => SurveyPost a m w ev w' := by
  by_cases hF : m.FitsM
  · exact survey_fit3 a p m hF h64 bR bK bI w E R
  · refine (survey_unfit3 a p m hF w E R).mono ?_
    rintro ev w1 ⟨rfl, hb⟩
    exact ⟨hb, .inr (.inr ⟨fun vs h => hF h.1, rfl⟩)⟩
end Go.Proofs.YtebhakmladbjlaaGreatDoor

/- Package mem: how many words live (Live), by a contract. -/
namespace Go.Proofs.YtebhakmladbjlaaGreatDoor
open Go.RowKit Go.Maps

theorem shape_few {m : MD} {vs : List Nat} (S : m.Shape vs) : vs.length ≤ 200000 := by
  obtain ⟨l1, l2, e, e1, e2⟩ := S.bare
  have a1 := walkP_len e1
  have a2 := walkP_len e2
  obtain ⟨b0, b1, b2, b3⟩ := MD.parts S.1
  obtain ⟨⟨a0, a1', a2', a3, a4, a5⟩, hw, _, u0, u1, t0, t1, o0, o1⟩ := S.1
  rw [e, List.length_append]
  omega
/-- A right memory, surveyed: what the walks of its graph stand on. -/
theorem ge_of (a : Nat → Addr) (p bh : Nat) (m : MD) (vs : List Nat) (hS : m.Shape vs) (h64 : MD64 m) (bR : m.R.length ≤ 300000) (w : World) (E : WErr a w) (R : RepP p m w) (hH : HeadsAt w bh m.W.length (fun i => decide (i ∈ vs))) (hbh : bh < w.heap.size) :
    ∃ (b cW : Nat) (vR vK vI vC : Value), GE a p b bh m.W.length cW m.half m.old m.card m.used m.top m.oldTop vR vK vI vC m.F vs w ∧ GR vs m.R vR w := by
  obtain ⟨_, vR, vK, vI, vC, hp, M, ⟨aW, cW, rfl, hcW, fW⟩, rR, _, _, _⟩ := R
  obtain ⟨b, rfl, lb, gW⟩ := fW (shape_len hS).1
  have hlt : ∀ f ∈ vs, f < m.W.length := fun f hf => by have := (hS.fine f hf).2; omega
  refine ⟨b, cW, vR, vK, vI, vC, ⟨E, ⟨(shape_len hS).2.1, hcW, hp, lb, hbh, hH, M.c3, fun i hi => gW i _ (words_at (by unfold MD.F; rw [List.getD_eq_getElem?_getD, List.getElem?_eq_getElem hi]; rfl)), md_range h64, fun f _ hf => hS.fine f (of_decide_eq_true hf)⟩, hlt, M, shape_few hS, hS.reachy h64⟩, ⟨rR, h64.r, bR, hS.roots h64⟩⟩
theorem gfield0 (a b : Value) (w : World) : (Instr.field 77 (.agg #[a, b]) 0).run Tryz.prog w = .ok a w := by kernel_rfl
/-- What Live answers. -/
def LivePost (a : Nat → Addr) (m : MD) (w : World) (ev : Ending) (w' : World) : Prop := Below w.heap.size w w' ∧
  ((∃ vs, m.Shape vs ∧ m.cardsB = true ∧ ev = .returned (.tuple #[.int .i64 (m.live vs : Int), .nilIface])) ∨
   (∃ vs, m.Shape vs ∧ m.cardsB = false ∧ ev = .returned (.tuple #[.int .i64 0, errV a 4])) ∨
   ((∀ vs, ¬ m.Shape vs) ∧ ev = .returned (.tuple #[.int .i64 0, errV a 2])))
set_option maxHeartbeats 4000000 in
set_option maxRecDepth 100000 in
theorem live_any (a : Nat → Addr) (p : Nat) (m : MD) (h64 : MD64 m) (bR : m.R.length ≤ 300000) (bK : m.K.length ≤ 300000) (bI : m.I.length ≤ 300000) (w : World) (E : MErr3 a w) (R : RepP p m w) :
    Calls Tryz.prog 11 #[.pointer (some ⟨p, 0, none⟩)] w (LivePost a m w) := by
  have ks := survey_any3 a p m h64 bR bK bI w E R
  have HE := toHid E
  have HR := toHid R
  have H64 := toHid h64
  clear E R h64
  go_enter Tryz.func11, Tryz.ntmps11
  go_wp2_with fail
  refine ks.mono ?_
  clear ks
  rintro ev w1 ⟨hb1, ⟨vs, bh, hs, hC, rfl, hm, _⟩ | ⟨vs, hs, hC, rfl⟩ | ⟨hno, rfl⟩⟩
  rotate_left
  · have HP : Hid (LivePost a m w (.returned (.tuple #[.int .i64 0, errV a 4])) w1) := ⟨hb1, .inr (.inl ⟨vs, hs, hC, rfl⟩)⟩
    unfold errV at *
    clear hs hC hb1
    go_wp2_with fail
    go_ret2
    exact HP.out
  · have HP : Hid (LivePost a m w (.returned (.tuple #[.int .i64 0, errV a 2])) w1) := ⟨hb1, .inr (.inr ⟨hno, rfl⟩)⟩
    unfold errV at *
    clear hno hb1
    go_wp2_with fail
    go_ret2
    exact HP.out
  obtain ⟨cur, h1, _⟩ := id hm
  obtain ⟨b, cW, vR, vK, vI, vC, X, GRR⟩ := ge_of a p bh m vs hs H64.out bR w1 (HE.out.below hb1).we (HR.out.below hb1) hm.heads (lt_of_heap h1)
  have kr := reach_any X m.R GRR
  have hU := reach_outs hs H64.out
  have hfew := X.few
  have hol := hU.len
  obtain ⟨rr, hrr⟩ : ∃ rr, rr = m.reach vs := ⟨_, rfl⟩
  rw [show reachP m.F (vs.length + 1) (comesP [] m.R) 0 = rr from hrr.symm] at kr
  rw [← hrr] at hU hol
  have HV : Hid (∀ w', Below w.heap.size w w' → LivePost a m w (.returned (.tuple #[.int .i64 ((rr.map (fun f => 1 + szN (m.F f))).sum : Nat), .nilIface])) w') := fun w' hb => ⟨hb, .inl ⟨vs, hs, hC, by rw [hrr]; rfl⟩⟩
  have HU := toHid hU
  have HS := toHid hs
  have HB1 := toHid hb1
  clear h1 hm X GRR hU hrr hs hC hb1
  go_wp2_with fail
  refine kr.mono ?_
  rintro ev w2 ⟨B, qm, qh, qg, vO, bm, rfl, hg, G⟩
  clear kr
  obtain ⟨vO', bm', n, D, xs, k1, k2, k3, _, _, _, _, _, _, _, _⟩ := G.gr
  rw [hg] at k1
  cases k1
  obtain ⟨oo, oc, rfl⟩ := own_slice k2
  have HROW := toHid (rowV_own k2)
  have HK3 := toHid k3
  have HB2 : Hid (Below w.heap.size w w2) := HB1.out.trans (G.below.mono HB1.out.size)
  have hgf := gfield0
  clear hg G k2 k3
  go_wp2_with fail
  clear hgf
  go_loopg [6, 22] (rr.length + 1) (fun gk v6 v22 wr => ∃ (k n : Nat), gk = rr.length + 1 - k ∧ k ≤ rr.length ∧ v22 = .int .i64 (k : Int) ∧ v6 = .int .i64 (n : Int) ∧ n ≤ k * 4097 ∧ Below w2.heap.size w2 wr ∧ Hid (n = ((rr.take k).map (fun f => 1 + szN (m.F f))).sum))
  case atStart => exact ⟨0, 0, rfl, Nat.zero_le _, rfl, rfl, Nat.le_refl _, Below.refl _ _, rfl⟩
  case round =>
    obtain ⟨k, n, hgk, hk, rfl, rfl, hn, hb, hsum⟩ := hrel
    have HG := toHid hgk
    have hk0 : (0 : Int) ≤ (k : Int) := by omega
    have HB := toHid hb
    clear hgk hb
    by_cases hlt : k < rr.length
    · have hI : (k : Int) < (rr.length : Int) := by omega
      obtain ⟨f, hf⟩ : ∃ f, rr[k]? = some f := ⟨_, List.getElem?_eq_getElem hlt⟩
      have hfv := HU.out.sub f (List.mem_of_getElem? hf)
      obtain ⟨cs, hxs, ao, cap, rfl, hcap, hao⟩ := HK3.out.2 k f hf
      obtain ⟨hfh, hfl⟩ := HS.out.fine f hfv
      obtain ⟨sz, hsz⟩ : ∃ sz, sz = szN (m.F f) := ⟨_, rfl⟩
      have hs4 : sz ≤ 4096 := by
        have hr := md_range H64.out f (by omega)
        unfold headB at hfh
        have := of_decide_eq_true hfh
        rw [hsz]
        unfold szN
        omega
      obtain ⟨_, _, e, _, f1⟩ := HROW.out
      cases e
      obtain ⟨p1, o1, rfl, l1, g1⟩ := f1 (by omega)
      have r0 : wr.cell? ⟨p1, o1 + k * 3, none⟩ = some (.int .i64 (f : Int)) := (HB.out.cell (p := ⟨p1, o1 + k * 3, none⟩) l1).trans (g1 (k * 3) _ (flat3 HK3.out.three hxs 0 (by omega)))
      have r1 : wr.cell? ⟨p1, o1 + k * 3 + 1, none⟩ = some (.int .i64 (m.F f / 4 % 256)) := (HB.out.cell (p := ⟨p1, o1 + k * 3 + 1, none⟩) l1).trans (g1 (k * 3 + 1) _ (flat3 HK3.out.three hxs 1 (by omega)))
      have r2 : wr.cell? ⟨p1, o1 + k * 3 + 2, none⟩ = some (.slice ao sz cap) := by rw [hsz]; exact (HB.out.cell (p := ⟨p1, o1 + k * 3 + 2, none⟩) l1).trans (g1 (k * 3 + 2) _ (flat3 HK3.out.three hxs 2 (by omega)))
      have HS2 : Hid (n + (1 + sz) = ((rr.take (k + 1)).map (fun f => 1 + szN (m.F f))).sum) := by show _ = _; rw [sumN_step hf, ← hsum.out, ← hsz]
      clear g1 f1 hsum hsz hfh hfl hf hxs hcap hao
      generalize m.F f / 4 % 256 = kd at *
      go_wp2_with fail
      go_roundg (rr.length + 1 - (k + 1))
      case measure => have := HG.out; omega
      case rel => exact ⟨k + 1, n + (1 + sz), rfl, by omega, by go_num, by go_num, by omega, HB.out.alloc HB.out.size _, HS2⟩
    · have hI : ¬ (k : Int) < (rr.length : Int) := by omega
      have HE : Hid (n = (rr.map (fun f => 1 + szN (m.F f))).sum) := by show _ = _; rw [hsum.out, List.take_of_length_le (by omega)]
      go_wp2_with fail
      go_ret2
      have e := HE.out
      rw [e]
      exact HV.out _ (HB2.out.trans (HB.out.mono HB2.out.size))
end Go.Proofs.YtebhakmladbjlaaGreatDoor

/- Graph: how its lines and its graph stand; lines as lists of bytes. -/
namespace Go.Proofs.YtebhakmladbjlaaGreatDoor
open Go.RowKit Go.Maps

theorem others_cells {e b k : Nat} {w w' : World} {cs : Array Value} {t : TypeId} {fz : Nat × Nat} (h : Lib.OthersKept e (some b) w w') (hk : w.heap[k]? = some (.cells cs t fz)) (hb : k ≠ b) (ht : t ≠ e) : w'.heap[k]? = some (.cells cs t fz) :=
  h k _ hk (by simpa using hb) (by intro c f x; cases x; exact ht rfl)
/-- Lines so far, at bl; a graph at qg. -/
structure GW (qg bl bm n ol oc : Nat) (oo : Option Addr) (D : DataW Unit) (B : Nat) (xs : List (List Value)) (w0 : World) (acc : List UInt8) (w : World) : Prop where
  below : Below w0.heap.size w0 w
  lo : w0.heap.size ≤ bl
  bld : Lib.IsBuilderF 73 5 bl bl (Lib.byteCells acc) w
  nil : acc = [] → ∃ p, w.heap[bl]? = some (.cells #[p, .slice none 0 0] 73 (0, 0))
  gr : w.heap[qg]? = some (.cells #[.slice oo ol oc, .map (some bm)] 77)
  row : w.ownsRow B 82 3 (.slice oo ol oc) ol xs.flatten
  map : w.ownsMap Tryz.prog 57 (plainElem Tryz.prog 3) bm n D
theorem GW.lt {qg bl bm n ol oc : Nat} {oo : Option Addr} {D : DataW Unit} {B : Nat} {xs : List (List Value)} {w0 w : World} {acc : List UInt8} (h : GW qg bl bm n ol oc oo D B xs w0 acc w) : bl < w.heap.size := lbuilder_lt h.bld
theorem GW.keep {qg bl bm n ol oc : Nat} {oo : Option Addr} {D : DataW Unit} {B : Nat} {xs : List (List Value)} {w0 w w' : World} {acc : List UInt8} (h : GW qg bl bm n ol oc oo D B xs w0 acc w) (hb : Below w.heap.size w w') : GW qg bl bm n ol oc oo D B xs w0 acc w' :=
  ⟨h.below.trans (hb.mono h.below.size), h.lo, lbuilder_below h.bld hb, fun e => by
    obtain ⟨p, hp⟩ := h.nil e
    exact ⟨p, (hb.block _ (lt_of_heap hp)).trans hp⟩, (hb.block _ (lt_of_heap h.gr)).trans h.gr, ownsRow_far' h.row (fun k hk => hb.block k (own_lt2 h.row k hk).2), own_kept3 h.map hb⟩
theorem GW.block {qg bl bm n ol oc : Nat} {oo : Option Addr} {D : DataW Unit} {B : Nat} {xs : List (List Value)} {w0 w : World} {acc : List UInt8} (h : GW qg bl bm n ol oc oo D B xs w0 acc w) : ∃ cs, w.heap[bl]? = some (.cells cs 73 (0, 0)) := by
  rcases h.bld with ⟨_, v, hb, _⟩ | ⟨_, v, hb, _⟩
  · exact ⟨_, hb⟩
  · exact ⟨_, hb⟩
theorem GW.write {qg bl bm n ol oc : Nat} {oo : Option Addr} {D : DataW Unit} {B : Nat} {xs : List (List Value)} {w0 w w' : World} {acc acc' : List UInt8} {ev : Ending} (h : GW qg bl bm n ol oc oo D B xs w0 acc w) (hp : LinePost bl bl acc' w ev w') (hne : acc' ≠ []) : GW qg bl bm n ol oc oo D B xs w0 acc' w' := by
  obtain ⟨_, h1, h2, h3⟩ := hp
  obtain ⟨cs, hbl⟩ := h.block
  have hg : qg ≠ bl := fun e => by
    subst e
    have := h.gr.symm.trans hbl
    simp at this
  refine ⟨h.below.trans (h2.mono h.lo), h.lo, h1, fun e => absurd e hne, others_cells h3 h.gr hg (by decide), ?_, ?_⟩
  · refine ownsRow_far' h.row (fun k hk => ?_)
    obtain ⟨_, hr⟩ := h.row
    rcases hr with ⟨e, _⟩ | ⟨g, cap, cur, e, _, hgk, _⟩
    · rw [e] at hk
      simp [Value.ownBlock] at hk
    · rw [e] at hk
      simp only [Value.ownBlock, Option.some.injEq] at hk
      subst hk
      rw [hgk]
      refine others_cells h3 hgk (fun e => ?_) (by decide)
      subst e
      have := hgk.symm.trans hbl
      simp at this
  · refine own_keptG h.map ?_
    obtain ⟨es, clock, h4, _⟩ := h.map
    rw [h4]
    refine h3 bm _ h4 (fun e => ?_) (by simp)
    cases e
    have := h4.symm.trans hbl
    simp at this
/-- Words with blanks between, by the first one. -/
theorem joinB_cons (x : ByteArray) : ∀ l : List ByteArray, joinB (x :: l) = x.data.toList ++ l.flatMap (fun t => 32 :: t.data.toList)
  | [] => by simp [joinB, Lib.join, List.intercalate]
  | y :: l => by
    have h := joinB_cons y l
    have e : joinB (x :: y :: l) = x.data.toList ++ (32 :: joinB (y :: l)) := by simp [joinB, Lib.join, List.intercalate]
    rw [e, h]
    simp
theorem join_len {l : List ByteArray} (c : Nat) (h : ∀ t ∈ l, t.size ≤ c) : (l.flatMap (fun t => 32 :: t.data.toList)).length ≤ l.length * (c + 1) := by
  induction l with
  | nil => simp
  | cons t l ih =>
    have h1 := ih (fun t ht => h t (List.mem_cons_of_mem _ ht))
    have h2 := h t (List.mem_cons_self ..)
    have h3 : t.data.toList.length = t.size := Array.length_toList
    rw [List.flatMap_cons, List.length_append, List.length_cons, List.length_cons, Nat.add_mul]
    omega
theorem line2 (A s t : ByteArray) (s' : ByteArray) (hs : s'.data.toList = s.data.toList ++ [32]) : (((A ++ s') ++ t) ++ ⟨#[10]⟩).data.toList = A.data.toList ++ (joinB [s, t] ++ [10]) := by
  rw [joinB_cons]
  simp [ByteArray.data_append, hs]
end Go.Proofs.YtebhakmladbjlaaGreatDoor

/- Graph: lines of roots, and of weak ones, by contracts. -/
namespace Go.Proofs.YtebhakmladbjlaaGreatDoor
open Go.RowKit Go.Maps

noncomputable def pBlock (n : Nat) : Code := (Tryz.f10.body.bind (gBlockIn n)).getD .skip
/-- Words of a list that have a text, by the program too. -/
structure Tells2 (l : List Int) : Prop where
  u64 : U64 l
  fine : ∀ x ∈ l, (x % 4 = 2 → x / 4 ≤ 2) ∧ x % 4 ≠ 3 ∧ (x / 4 ≤ 1099511627776 ∨ x % 4 = 1)
  len : l.length ≤ 300000
/-- What Graph's loops stand on. -/
structure GX (a : Nat → Addr) (D : DataW Unit) (out : List Nat) (w0 : World) : Prop where
  err : WErr a w0
  tab : TabbedM w0
  tz : Tz16 w0
  num : GNum D out
  few : out.length ≤ 300000
def wRoot : ByteArray := ⟨#[114, 111, 111, 116]⟩
def wWeak : ByteArray := ⟨#[119, 101, 97, 107]⟩
theorem root_blank : sRoot.data.toList = wRoot.data.toList ++ [32] := rfl
theorem weak_blank : sWeak.data.toList = wWeak.data.toList ++ [32] := rfl
theorem gLine_ne (s : ByteArray) (out : List Nat) (acc : ByteArray) (x : Int) : (gLine s out acc x).data.toList ≠ [] := by
  unfold gLine
  intro h
  have := congrArg List.length h
  simp [ByteArray.data_append] at this
set_option maxRecDepth 100000 in
set_option maxHeartbeats 2000000 in
theorem pgraph_b0 {a : Nat → Addr} {p qg bl bm n ol oc cR B : Nat} {oo aR : Option Addr} {D : DataW Unit} {out : List Nat} {xs : List (List Value)} {a0 : ByteArray} {l : List Int} {w0 wr : World} {u1 u2 u3 u4 u5 u8 u9 u10 u11 u12 u13 u14 u15 u16 u17 u18 u19 u20 u21 u22 u23 u24 u25 u26 u27 u28 u29 u33 u34 u35 u36 u37 u38 u39 u40 u41 u42 u43 u44 u45 u46 u47 u48 u49 u50 u51 u52 u53 u54 u55 u56 u57 u58 u59 u60 u61 u62 u63 u64 u65 u66 u67 u68 u69 u70 u71 u72 u73 u74 u75 u76 u77 u78 u79 u80 u81 u82 u83 u84 u85 u86 u87 u88 u89 u90 u91 u92 u93 u94 u95 u96 u97 u98 u99 : Value} {K : Act → World → Prop} {Q : Exit → Act → World → Prop}
    (X : GX a D out w0) (G : GW qg bl bm n ol oc oo D B xs w0 a0.data.toList wr) (hl : Tells2 l) (ha : a0.size ≤ 10000000000000) (hrow : RowV w0 (.slice aR l.length cR) l.length (wordsV l))
    (hrest : ∀ (v33 v34 v35 v36 v37 v38 v39 v40 v41 v9 v32 : Value) (wx : World), (GW qg bl bm n ol oc oo D B xs w0 (gLines sRoot out a0 l).data.toList wx) → K ⟨#[.pointer (some ⟨p, 0, none⟩), u1, u2, u3, u4, u5, .pointer (some ⟨bl, 0, none⟩), .pointer (some ⟨qg, 0, none⟩), u8, v9, u10, u11, u12, u13, u14, u15, u16, u17, u18, u19, u20, u21, u22, u23, u24, u25, u26, u27, u28, u29, .slice aR l.length cR, .int .i64 (l.length : Int), v32, v33, v34, v35, v36, v37, v38, v39, v40, v41, u42, u43, u44, u45, u46, u47, u48, u49, u50, u51, u52, u53, u54, u55, u56, u57, u58, u59, u60, u61, u62, u63, u64, u65, u66, u67, u68, u69, u70, u71, u72, u73, u74, u75, u76, u77, u78, u79, u80, u81, u82, u83, u84, u85, u86, u87, u88, u89, u90, u91, u92, u93, u94, u95, u96, u97, u98, u99], []⟩ wx) :
    Code.wp Tryz.prog (pBlock 0) (Exit.then K Q) ⟨#[.pointer (some ⟨p, 0, none⟩), u1, u2, u3, u4, u5, .pointer (some ⟨bl, 0, none⟩), .pointer (some ⟨qg, 0, none⟩), u8, u9, u10, u11, u12, u13, u14, u15, u16, u17, u18, u19, u20, u21, u22, u23, u24, u25, u26, u27, u28, u29, .slice aR l.length cR, .int .i64 (l.length : Int), .int .i64 0, u33, u34, u35, u36, u37, u38, u39, u40, u41, u42, u43, u44, u45, u46, u47, u48, u49, u50, u51, u52, u53, u54, u55, u56, u57, u58, u59, u60, u61, u62, u63, u64, u65, u66, u67, u68, u69, u70, u71, u72, u73, u74, u75, u76, u77, u78, u79, u80, u81, u82, u83, u84, u85, u86, u87, u88, u89, u90, u91, u92, u93, u94, u95, u96, u97, u98, u99], []⟩ wr := by
  have HR := toHid hrest
  have HL := toHid hl
  have HW := toHid hrow
  have HX := toHid X
  have HG0 := toHid G
  have hll := hl.len
  clear hrest hl hrow X G
  conv => arg 2; whnf
  go_wp2_with fail
  go_loopg [32] (l.length + 1) (fun gk vi wr => ∃ (k : Nat), gk = l.length + 1 - k ∧ k ≤ l.length ∧ vi = .int .i64 (k : Int) ∧ (gLines sRoot out a0 (l.take k)).size ≤ 10000000000000 + k * 28 ∧ Hid (GW qg bl bm n ol oc oo D B xs w0 (gLines sRoot out a0 (l.take k)).data.toList wr))
  case atStart => exact ⟨0, rfl, Nat.zero_le _, rfl, by show a0.size ≤ _; omega, HG0.out⟩
  case round =>
    obtain ⟨k, hgk, hk, rfl, hsz, hG⟩ := hrel
    have HG := toHid hgk
    have hk0 : (0 : Int) ≤ (k : Int) := by omega
    clear hgk
    by_cases hlt : k < l.length
    · have hI : (k : Int) < (l.length : Int) := by omega
      obtain ⟨x, hx⟩ : ∃ x, l[k]? = some x := ⟨_, List.getElem?_eq_getElem hlt⟩
      obtain ⟨_, _, e, _, f1⟩ := HW.out
      cases e
      obtain ⟨p1, o1, rfl, l1, g1⟩ := f1 (by omega)
      have rx : wr.cell? ⟨p1, o1 + k, none⟩ = some (.int .u64 x) := (hG.out.below.cell (p := ⟨p1, o1 + k, none⟩) l1).trans (g1 k _ (words_at hx))
      have hxr := HL.out.u64 x (List.mem_of_getElem? hx)
      obtain ⟨t1, t2, t3⟩ := HL.out.fine x (List.mem_of_getElem? hx)
      have kt := tell_any a bm n ol oc oo _ out HX.out.few HX.out.num x hxr.1 hxr.2 t1 t2 t3 wr (HX.out.err.below hG.out.below) (HX.out.tab.below hG.out.below (Nat.le_refl _)) hG.out.map
      have hts := tellB_size out HX.out.few x
      have HE : Hid (gLines sRoot out a0 (l.take (k + 1)) = gLine sRoot out (gLines sRoot out a0 (l.take k)) x) := gLines_take hx
      have hne := gLine_ne sRoot out (gLines sRoot out a0 (l.take k)) x
      rw [← HE.out] at hne
      have HT : Hid ((gLines sRoot out a0 (l.take (k + 1))).data.toList = (gLines sRoot out a0 (l.take k)).data.toList ++ (joinB [wRoot, tellB out x] ++ [10])) := by
        show _ = _
        rw [HE.out]
        exact line2 _ wRoot _ sRoot root_blank
      have HSZ : Hid ((gLines sRoot out a0 (l.take (k + 1))).size ≤ 10000000000000 + (k + 1) * 28) := by
        show _ ≤ _
        rw [HE.out]
        unfold gLine
        rw [ByteArray.size_append, ByteArray.size_append, ByteArray.size_append]
        show _ + 5 + _ + 1 ≤ _
        omega
      have hjl : (joinB [wRoot, tellB out x]).length ≤ 1000 := by
        rw [joinB_cons]
        have h1 := join_len (l := [tellB out x]) 22 (by intro t ht; simp at ht; subst ht; exact hts)
        rw [List.length_append]
        have h2 : wRoot.data.toList.length = 4 := rfl
        simp only [List.length_cons, List.length_nil] at h1
        omega
      have hal : (gLines sRoot out a0 (l.take k)).data.toList.length ≤ 100000000000000 := by
        have : (gLines sRoot out a0 (l.take k)).data.toList.length = (gLines sRoot out a0 (l.take k)).size := Array.length_toList
        omega
      have c0 : wr.cell? ⟨qg, 0, none⟩ = some (.slice oo ol oc) := by rw [cell_of_row _ _ 0 _ _ _ hG.out.gr]; rfl
      have c1 : wr.cell? ⟨qg, 1, none⟩ = some (.map (some bm)) := by rw [cell_of_row _ _ 1 _ _ _ hG.out.gr]; rfl
      have HNE := toHid hne
      have HJL := toHid hjl
      have HAL := toHid hal
      unfold wRoot at HT HJL
      generalize tellB out x = tx at *
      clear f1 g1 hx hxr hne hjl hal hsz HE hts t1 t2 t3
      go_wp2_with fail
      refine kt.mono ?_
      rintro ev w2 ⟨rfl, hb2⟩
      clear kt
      have G3 := toHid ((hG.out.keep hb2).keep ((Below.refl _ _).alloc (Nat.le_refl _) (.cells #[.string ⟨#[114, 111, 111, 116]⟩, .string tx] 9)))
      have hob := heap_alloc_new w2 (.cells #[.string ⟨#[114, 111, 111, 116]⟩, .string tx] 9)
      have ka := add_any bl bl w2.heap.size 0 2 [⟨#[114, 111, 111, 116]⟩, tx] _ _ G3.out.bld (Nat.le_of_lt G3.out.lt) (fun j y hj => by
        rw [cell_of_row _ _ _ _ _ _ hob, Nat.zero_add]
        match j, hj with
        | 0, hj => cases hj; rfl
        | 1, hj => cases hj; rfl) (lt_of_heap hob) (by simp) (by simp) (by have := HJL.out; omega) HAL.out
      rw [← HT.out] at ka
      clear hob hb2
      go_wp2_with fail
      refine ka.mono ?_
      intro ev w4 hp
      have he := hp.1
      have G4 := toHid (G3.out.write hp HNE.out)
      clear ka hp
      subst he
      go_wp2_with fail
      go_roundg (l.length + 1 - (k + 1))
      case measure => have := HG.out; omega
      case rel => exact ⟨k + 1, rfl, by omega, by go_num, HSZ.out, G4.out⟩
    · have hI : ¬ (k : Int) < (l.length : Int) := by omega
      have HE : Hid (gLines sRoot out a0 (l.take k) = gLines sRoot out a0 l) := by show _ = _; rw [List.take_of_length_le (by omega)]
      go_wp2_with fail
      have e := hG.out
      rw [HE.out] at e
      exact HR.out _ _ _ _ _ _ _ _ _ _ _ _ e
set_option maxRecDepth 100000 in
set_option maxHeartbeats 2000000 in
theorem pgraph_b4 {a : Nat → Addr} {p qg bl bm n ol oc cR B : Nat} {oo aR : Option Addr} {D : DataW Unit} {out : List Nat} {xs : List (List Value)} {a0 : ByteArray} {l : List Int} {w0 wr : World} {u1 u2 u3 u4 u5 u8 u9 u10 u11 u12 u13 u14 u15 u16 u17 u18 u19 u20 u21 u22 u23 u24 u25 u26 u27 u28 u29 u30 u31 u32 u33 u34 u35 u36 u37 u38 u39 u40 u41 u42 u43 u44 u45 u46 u47 u48 u49 u50 u51 u52 u53 u54 u55 u56 u57 u58 u59 u60 u61 u62 u63 u64 u68 u69 u70 u71 u72 u73 u74 u75 u76 u77 u78 u79 u80 u81 u82 u83 u84 u85 u86 u87 u88 u89 u90 u91 u92 u93 u94 u95 u96 u97 u98 u99 : Value} {K : Act → World → Prop} {Q : Exit → Act → World → Prop}
    (X : GX a D out w0) (G : GW qg bl bm n ol oc oo D B xs w0 a0.data.toList wr) (hl : Tells2 l) (ha : a0.size ≤ 10000000000000) (hrow : RowV w0 (.slice aR l.length cR) l.length (wordsV l))
    (hrest : ∀ (v68 v69 v70 v71 v72 v73 v74 v75 v76 v13 v67 : Value) (wx : World), (GW qg bl bm n ol oc oo D B xs w0 (gLines sWeak out a0 l).data.toList wx) → K ⟨#[.pointer (some ⟨p, 0, none⟩), u1, u2, u3, u4, u5, .pointer (some ⟨bl, 0, none⟩), .pointer (some ⟨qg, 0, none⟩), u8, u9, u10, u11, u12, v13, u14, u15, u16, u17, u18, u19, u20, u21, u22, u23, u24, u25, u26, u27, u28, u29, u30, u31, u32, u33, u34, u35, u36, u37, u38, u39, u40, u41, u42, u43, u44, u45, u46, u47, u48, u49, u50, u51, u52, u53, u54, u55, u56, u57, u58, u59, u60, u61, u62, u63, u64, .slice aR l.length cR, .int .i64 (l.length : Int), v67, v68, v69, v70, v71, v72, v73, v74, v75, v76, u77, u78, u79, u80, u81, u82, u83, u84, u85, u86, u87, u88, u89, u90, u91, u92, u93, u94, u95, u96, u97, u98, u99], []⟩ wx) :
    Code.wp Tryz.prog (pBlock 4) (Exit.then K Q) ⟨#[.pointer (some ⟨p, 0, none⟩), u1, u2, u3, u4, u5, .pointer (some ⟨bl, 0, none⟩), .pointer (some ⟨qg, 0, none⟩), u8, u9, u10, u11, u12, u13, u14, u15, u16, u17, u18, u19, u20, u21, u22, u23, u24, u25, u26, u27, u28, u29, u30, u31, u32, u33, u34, u35, u36, u37, u38, u39, u40, u41, u42, u43, u44, u45, u46, u47, u48, u49, u50, u51, u52, u53, u54, u55, u56, u57, u58, u59, u60, u61, u62, u63, u64, .slice aR l.length cR, .int .i64 (l.length : Int), .int .i64 0, u68, u69, u70, u71, u72, u73, u74, u75, u76, u77, u78, u79, u80, u81, u82, u83, u84, u85, u86, u87, u88, u89, u90, u91, u92, u93, u94, u95, u96, u97, u98, u99], []⟩ wr := by
  have HR := toHid hrest
  have HL := toHid hl
  have HW := toHid hrow
  have HX := toHid X
  have HG0 := toHid G
  have hll := hl.len
  clear hrest hl hrow X G
  conv => arg 2; whnf
  go_wp2_with fail
  go_loopg [67] (l.length + 1) (fun gk vi wr => ∃ (k : Nat), gk = l.length + 1 - k ∧ k ≤ l.length ∧ vi = .int .i64 (k : Int) ∧ (gLines sWeak out a0 (l.take k)).size ≤ 10000000000000 + k * 28 ∧ Hid (GW qg bl bm n ol oc oo D B xs w0 (gLines sWeak out a0 (l.take k)).data.toList wr))
  case atStart => exact ⟨0, rfl, Nat.zero_le _, rfl, by show a0.size ≤ _; omega, HG0.out⟩
  case round =>
    obtain ⟨k, hgk, hk, rfl, hsz, hG⟩ := hrel
    have HG := toHid hgk
    have hk0 : (0 : Int) ≤ (k : Int) := by omega
    clear hgk
    by_cases hlt : k < l.length
    · have hI : (k : Int) < (l.length : Int) := by omega
      obtain ⟨x, hx⟩ : ∃ x, l[k]? = some x := ⟨_, List.getElem?_eq_getElem hlt⟩
      obtain ⟨_, _, e, _, f1⟩ := HW.out
      cases e
      obtain ⟨p1, o1, rfl, l1, g1⟩ := f1 (by omega)
      have rx : wr.cell? ⟨p1, o1 + k, none⟩ = some (.int .u64 x) := (hG.out.below.cell (p := ⟨p1, o1 + k, none⟩) l1).trans (g1 k _ (words_at hx))
      have hxr := HL.out.u64 x (List.mem_of_getElem? hx)
      obtain ⟨t1, t2, t3⟩ := HL.out.fine x (List.mem_of_getElem? hx)
      have kt := tell_any a bm n ol oc oo _ out HX.out.few HX.out.num x hxr.1 hxr.2 t1 t2 t3 wr (HX.out.err.below hG.out.below) (HX.out.tab.below hG.out.below (Nat.le_refl _)) hG.out.map
      have hts := tellB_size out HX.out.few x
      have HE : Hid (gLines sWeak out a0 (l.take (k + 1)) = gLine sWeak out (gLines sWeak out a0 (l.take k)) x) := gLines_take hx
      have hne := gLine_ne sWeak out (gLines sWeak out a0 (l.take k)) x
      rw [← HE.out] at hne
      have HT : Hid ((gLines sWeak out a0 (l.take (k + 1))).data.toList = (gLines sWeak out a0 (l.take k)).data.toList ++ (joinB [wWeak, tellB out x] ++ [10])) := by
        show _ = _
        rw [HE.out]
        exact line2 _ wWeak _ sWeak weak_blank
      have HSZ : Hid ((gLines sWeak out a0 (l.take (k + 1))).size ≤ 10000000000000 + (k + 1) * 28) := by
        show _ ≤ _
        rw [HE.out]
        unfold gLine
        rw [ByteArray.size_append, ByteArray.size_append, ByteArray.size_append]
        show _ + 5 + _ + 1 ≤ _
        omega
      have hjl : (joinB [wWeak, tellB out x]).length ≤ 1000 := by
        rw [joinB_cons]
        have h1 := join_len (l := [tellB out x]) 22 (by intro t ht; simp at ht; subst ht; exact hts)
        rw [List.length_append]
        have h2 : wWeak.data.toList.length = 4 := rfl
        simp only [List.length_cons, List.length_nil] at h1
        omega
      have hal : (gLines sWeak out a0 (l.take k)).data.toList.length ≤ 100000000000000 := by
        have : (gLines sWeak out a0 (l.take k)).data.toList.length = (gLines sWeak out a0 (l.take k)).size := Array.length_toList
        omega
      have c0 : wr.cell? ⟨qg, 0, none⟩ = some (.slice oo ol oc) := by rw [cell_of_row _ _ 0 _ _ _ hG.out.gr]; rfl
      have c1 : wr.cell? ⟨qg, 1, none⟩ = some (.map (some bm)) := by rw [cell_of_row _ _ 1 _ _ _ hG.out.gr]; rfl
      have HNE := toHid hne
      have HJL := toHid hjl
      have HAL := toHid hal
      unfold wWeak at HT HJL
      generalize tellB out x = tx at *
      clear f1 g1 hx hxr hne hjl hal hsz HE hts t1 t2 t3
      go_wp2_with fail
      refine kt.mono ?_
      rintro ev w2 ⟨rfl, hb2⟩
      clear kt
      have G3 := toHid ((hG.out.keep hb2).keep ((Below.refl _ _).alloc (Nat.le_refl _) (.cells #[.string ⟨#[119, 101, 97, 107]⟩, .string tx] 9)))
      have hob := heap_alloc_new w2 (.cells #[.string ⟨#[119, 101, 97, 107]⟩, .string tx] 9)
      have ka := add_any bl bl w2.heap.size 0 2 [⟨#[119, 101, 97, 107]⟩, tx] _ _ G3.out.bld (Nat.le_of_lt G3.out.lt) (fun j y hj => by
        rw [cell_of_row _ _ _ _ _ _ hob, Nat.zero_add]
        match j, hj with
        | 0, hj => cases hj; rfl
        | 1, hj => cases hj; rfl) (lt_of_heap hob) (by simp) (by simp) (by have := HJL.out; omega) HAL.out
      rw [← HT.out] at ka
      clear hob hb2
      go_wp2_with fail
      refine ka.mono ?_
      intro ev w4 hp
      have he := hp.1
      have G4 := toHid (G3.out.write hp HNE.out)
      clear ka hp
      subst he
      go_wp2_with fail
      go_roundg (l.length + 1 - (k + 1))
      case measure => have := HG.out; omega
      case rel => exact ⟨k + 1, rfl, by omega, by go_num, HSZ.out, G4.out⟩
    · have hI : ¬ (k : Int) < (l.length : Int) := by omega
      have HE : Hid (gLines sWeak out a0 (l.take k) = gLines sWeak out a0 l) := by show _ = _; rw [List.take_of_length_le (by omega)]
      go_wp2_with fail
      have e := hG.out
      rw [HE.out] at e
      exact HR.out _ _ _ _ _ _ _ _ _ _ _ _ e
end Go.Proofs.YtebhakmladbjlaaGreatDoor

/- Graph: lines of IDs, by a contract. -/
namespace Go.Proofs.YtebhakmladbjlaaGreatDoor
open Go.RowKit Go.Maps

/-- A block of one's own beside lines and graph. -/
structure GQ (qg bl bm n ol oc : Nat) (oo : Option Addr) (D : DataW Unit) (B : Nat) (xs : List (List Value)) (w0 : World) (acc : List UInt8) (q : Nat) (cs : Array Value) (t : TypeId) (w : World) : Prop where
  gw : GW qg bl bm n ol oc oo D B xs w0 acc w
  own : w.heap[q]? = some (.cells cs t)
  ne : q ≠ bl
theorem GQ.keep {qg bl bm n ol oc : Nat} {oo : Option Addr} {D : DataW Unit} {B : Nat} {xs : List (List Value)} {w0 w w' : World} {acc : List UInt8} {q : Nat} {cs : Array Value} {t : TypeId} (h : GQ qg bl bm n ol oc oo D B xs w0 acc q cs t w) (hb : Below w.heap.size w w') : GQ qg bl bm n ol oc oo D B xs w0 acc q cs t w' := ⟨h.gw.keep hb, (hb.block _ (lt_of_heap h.own)).trans h.own, h.ne⟩
theorem GQ.drew {qg bl bm n ol oc : Nat} {oo : Option Addr} {D : DataW Unit} {B : Nat} {xs : List (List Value)} {w0 w : World} {acc : List UInt8} {q : Nat} {cs : Array Value} {t : TypeId} (h : GQ qg bl bm n ol oc oo D B xs w0 acc q cs t w) : GQ qg bl bm n ol oc oo D B xs w0 acc q cs t w.drew := h.keep (Below.refl _ _).drew
theorem GQ.alloc {qg bl bm n ol oc : Nat} {oo : Option Addr} {D : DataW Unit} {B : Nat} {xs : List (List Value)} {w0 w : World} {acc : List UInt8} {q : Nat} {cs : Array Value} {t : TypeId} (h : GQ qg bl bm n ol oc oo D B xs w0 acc q cs t w) (o : Obj) : GQ qg bl bm n ol oc oo D B xs w0 acc q cs t (w.alloc o) := h.keep ((Below.refl _ _).alloc (Nat.le_refl _) o)
theorem GQ.new {qg bl bm n ol oc : Nat} {oo : Option Addr} {D : DataW Unit} {B : Nat} {xs : List (List Value)} {w0 w : World} {acc : List UInt8} (h : GW qg bl bm n ol oc oo D B xs w0 acc w) (cs : Array Value) (t : TypeId) : GQ qg bl bm n ol oc oo D B xs w0 acc w.heap.size cs t (w.alloc (.cells cs t)) :=
  ⟨h.keep ((Below.refl _ _).alloc (Nat.le_refl _) _), heap_alloc_new _ _, by have := h.lt; omega⟩
theorem GQ.write {qg bl bm n ol oc : Nat} {oo : Option Addr} {D : DataW Unit} {B : Nat} {xs : List (List Value)} {w0 w w' : World} {acc acc' : List UInt8} {q : Nat} {cs : Array Value} {t : TypeId} {ev : Ending} (h : GQ qg bl bm n ol oc oo D B xs w0 acc q cs t w) (hp : LinePost bl bl acc' w ev w') (hne : acc' ≠ []) (ht : t ≠ 5) : GQ qg bl bm n ol oc oo D B xs w0 acc' q cs t w' := ⟨h.gw.write hp hne, others_cells hp.2.2.2 h.own h.ne ht, h.ne⟩
theorem GQ.cell {qg bl bm n ol oc : Nat} {oo : Option Addr} {D : DataW Unit} {B : Nat} {xs : List (List Value)} {w0 w : World} {acc : List UInt8} {q : Nat} {cs : Array Value} {t : TypeId} (h : GQ qg bl bm n ol oc oo D B xs w0 acc q cs t w) (j : Nat) : w.cell? ⟨q, j, none⟩ = cs[j]? := cell_of_row _ _ j _ _ _ h.own
theorem GQ.gcells {qg bl bm n ol oc : Nat} {oo : Option Addr} {D : DataW Unit} {B : Nat} {xs : List (List Value)} {w0 w : World} {acc : List UInt8} {q : Nat} {cs : Array Value} {t : TypeId} (h : GQ qg bl bm n ol oc oo D B xs w0 acc q cs t w) : w.cell? ⟨qg, 0, none⟩ = some (.slice oo ol oc) ∧ w.cell? ⟨qg, 1, none⟩ = some (.map (some bm)) :=
  ⟨by rw [cell_of_row _ _ 0 _ _ _ h.gw.gr]; rfl, by rw [cell_of_row _ _ 1 _ _ _ h.gw.gr]; rfl⟩
theorem GQ.four {qg bl bm n ol oc : Nat} {oo : Option Addr} {D : DataW Unit} {B : Nat} {xs : List (List Value)} {w0 w : World} {acc : List UInt8} {q : Nat} {v0 v1 : Value} {t : TypeId} (h : GQ qg bl bm n ol oc oo D B xs w0 acc q #[v0, v1] t w) : w.cell? ⟨q, 0, none⟩ = some v0 ∧ w.cell? ⟨q, 1, none⟩ = some v1 ∧ w.cell? ⟨qg, 0, none⟩ = some (.slice oo ol oc) ∧ w.cell? ⟨qg, 1, none⟩ = some (.map (some bm)) := ⟨h.cell 0, h.cell 1, h.gcells⟩
theorem GX.at {a : Nat → Addr} {D : DataW Unit} {out : List Nat} {w0 w : World} (X : GX a D out w0) (hb : Below w0.heap.size w0 w) : GX a D out w := ⟨X.err.below hb, X.tab.below hb (Nat.le_refl _), X.tz.below hb (Nat.le_refl _), X.num, X.few⟩
theorem itoa_at {k : Int} (h0 : -9223372036854775808 ≤ k) (h1 : k ≤ 9223372036854775807) (w : World) (ht : TabbedM w) : Calls Tryz.prog 28 #[.int .i64 k] w fun ev w' => ev = .returned (.string (decB k)) ∧ Below w.heap.size w w' := by
  refine (itoa_any k h0 h1 w ht).mono ?_
  rintro ev w' ⟨rfl, j, os, rfl⟩
  exact ⟨rfl, Lib.below_grow w.heap.size w (Nat.le_refl _) j os⟩
theorem rowT_others {t : TypeId} {w w' : World} {v : Value} {n : Nat} {ys : List Value} {qg bl bm n' ol oc : Nat} {oo : Option Addr} {D : DataW Unit} {B : Nat} {xs : List (List Value)} {w0 : World} {acc : List UInt8} (h : RowT t w v n ys) (G : GW qg bl bm n' ol oc oo D B xs w0 acc w) (ho : Lib.OthersKept 5 (some bl) w w') (ht : t ≠ 5) (hl : t ≠ 73) : RowT t w' v n ys := by
  obtain ⟨ao, cap, e, hc, f⟩ := h
  refine ⟨ao, cap, e, hc, fun hn => ?_⟩
  obtain ⟨b, o, cur, fz, e1, hk, g⟩ := f hn
  obtain ⟨cs, hb⟩ := G.block
  refine ⟨b, o, cur, fz, e1, others_cells ho hk (fun e => ?_) ht, g⟩
  subst e
  have := hk.symm.trans hb
  simp at this
  exact hl this.2.1
theorem rowT_below {t : TypeId} {w w' : World} {v : Value} {n : Nat} {ys : List Value} (h : RowT t w v n ys) (hb : Below w.heap.size w w') : RowT t w' v n ys := by
  obtain ⟨ao, cap, e, hc, f⟩ := h
  refine ⟨ao, cap, e, hc, fun hn => ?_⟩
  obtain ⟨b, o, cur, fz, e1, hk, g⟩ := f hn
  exact ⟨b, o, cur, fz, e1, (hb.block _ (lt_of_heap hk)).trans hk, g⟩
theorem rowT_drew {t : TypeId} {w : World} {v : Value} {n : Nat} {ys : List Value} (h : RowT t w v n ys) : RowT t w.drew v n ys := h
/-- An ID's line, as words. -/
theorem id_line {out : List Nat} {A : ByteArray} {x : Int × Int} (h : hasI out x = true) (h4 : x.1 % 4 = 0) (h5 : x.1 ≠ 0) : (gId out A x).data.toList = A.data.toList ++ (joinB [⟨#[105, 100]⟩, decB x.2, tellB out x.1] ++ [10]) := by
  have h0 : ¬ objI out (ptI x.1) < 0 := by
    have := of_decide_eq_true h
    omega
  have e : tellB out x.1 = ⟨#[64]⟩ ++ decB (objI out (ptI x.1)) := by
    unfold tellB
    rw [if_neg (by omega), if_neg (by omega), if_neg h5, if_neg h0]
  rw [e, joinB_cons]
  unfold gId
  rw [if_neg h0]
  simp [ByteArray.data_append]
theorem gId_ne {out : List Nat} {A : ByteArray} {x : Int × Int} (h : hasI out x = true) : (gId out A x).data.toList ≠ [] := by
  have h0 : ¬ objI out (ptI x.1) < 0 := by
    have := of_decide_eq_true h
    omega
  unfold gId
  rw [if_neg h0]
  intro h
  have := congrArg List.length h
  simp [ByteArray.data_append] at this
theorem gId_size {out : List Nat} (hn : out.length ≤ 300000) (A : ByteArray) {x : Int × Int} (h : -9223372036854775808 ≤ x.2 ∧ x.2 < 9223372036854775808) : (gId out A x).size ≤ A.size + 80 := by
  have hb := objI_bound (vs := out) (x := ptI x.1) hn
  have h1 := decB_size x.2 (by omega) (by omega)
  have h2 := decB_size (objI out (ptI x.1)) (by omega) (by omega)
  unfold gId
  split
  · omega
  · rw [ByteArray.size_append, ByteArray.size_append, ByteArray.size_append, ByteArray.size_append, ByteArray.size_append]
    show _ + 3 + _ + 2 + _ + 1 ≤ _
    omega
set_option maxRecDepth 100000 in
set_option maxHeartbeats 2000000 in
theorem pgraph_b6 {a : Nat → Addr} {qg bl bm n ol oc cR B : Nat} {oo aR : Option Addr} {D : DataW Unit} {out : List Nat} {xs : List (List Value)} {a0 : ByteArray} {M : List (Int × Int)} {w0 wr : World} {u0 u1 u2 u3 u4 u5 u8 u9 u10 u11 u12 u13 u14 u15 u16 u17 u18 u19 u20 u21 u22 u23 u24 u25 u26 u27 u28 u29 u30 u31 u32 u33 u34 u35 u36 u37 u38 u39 u40 u41 u42 u43 u44 u45 u46 u47 u48 u49 u50 u51 u52 u53 u54 u55 u56 u57 u58 u59 u60 u61 u62 u63 u64 u65 u66 u67 u68 u69 u70 u71 u72 u73 u74 u75 u76 u77 u78 u79 u80 u81 u85 u86 u87 u88 u89 u90 u91 u92 u93 u94 u95 u96 u97 u98 u99 : Value} {K : Act → World → Prop} {Q : Exit → Act → World → Prop}
    (X : GX a D out w0) (G : GW qg bl bm n ol oc oo D B xs w0 a0.data.toList wr) (h64 : Ids64 M) (hin : ∀ x ∈ M, hasI out x = true ∧ x.1 % 4 = 0 ∧ x.1 ≠ 0 ∧ x.1 / 4 ≤ 1099511627776) (hll : M.length ≤ 300000) (ha : a0.size ≤ 100000000000) (hrow : RowT 62 wr (.slice aR M.length cR) M.length (idsV M))
    (hrest : ∀ (v85 v86 v87 v88 v89 v90 v91 v92 v93 v94 v95 v96 v97 v15 v84 : Value) (wx : World), (GW qg bl bm n ol oc oo D B xs w0 (gIds out a0 M).data.toList wx) → K ⟨#[u0, u1, u2, u3, u4, u5, .pointer (some ⟨bl, 0, none⟩), .pointer (some ⟨qg, 0, none⟩), u8, u9, u10, u11, u12, u13, u14, v15, u16, u17, u18, u19, u20, u21, u22, u23, u24, u25, u26, u27, u28, u29, u30, u31, u32, u33, u34, u35, u36, u37, u38, u39, u40, u41, u42, u43, u44, u45, u46, u47, u48, u49, u50, u51, u52, u53, u54, u55, u56, u57, u58, u59, u60, u61, u62, u63, u64, u65, u66, u67, u68, u69, u70, u71, u72, u73, u74, u75, u76, u77, u78, u79, u80, u81, .slice aR M.length cR, .int .i64 (M.length : Int), v84, v85, v86, v87, v88, v89, v90, v91, v92, v93, v94, v95, v96, v97, u98, u99], []⟩ wx) :
    Code.wp Tryz.prog (pBlock 6) (Exit.then K Q) ⟨#[u0, u1, u2, u3, u4, u5, .pointer (some ⟨bl, 0, none⟩), .pointer (some ⟨qg, 0, none⟩), u8, u9, u10, u11, u12, u13, u14, u15, u16, u17, u18, u19, u20, u21, u22, u23, u24, u25, u26, u27, u28, u29, u30, u31, u32, u33, u34, u35, u36, u37, u38, u39, u40, u41, u42, u43, u44, u45, u46, u47, u48, u49, u50, u51, u52, u53, u54, u55, u56, u57, u58, u59, u60, u61, u62, u63, u64, u65, u66, u67, u68, u69, u70, u71, u72, u73, u74, u75, u76, u77, u78, u79, u80, u81, .slice aR M.length cR, .int .i64 (M.length : Int), .int .i64 0, u85, u86, u87, u88, u89, u90, u91, u92, u93, u94, u95, u96, u97, u98, u99], []⟩ wr := by
  have HR := toHid hrest
  have H6 := toHid h64
  have HIN := toHid hin
  have HW := toHid hrow
  have HX := toHid X
  have HG0 := toHid G
  clear hrest h64 hin hrow X G
  conv => arg 2; whnf
  go_wp2_with fail
  go_loopg [84] (M.length + 1) (fun gk vi wr => ∃ (k : Nat), gk = M.length + 1 - k ∧ k ≤ M.length ∧ vi = .int .i64 (k : Int) ∧ (gIds out a0 (M.take k)).size ≤ 100000000000 + k * 80 ∧ Hid (GW qg bl bm n ol oc oo D B xs w0 (gIds out a0 (M.take k)).data.toList wr) ∧ Hid (RowT 62 wr (.slice aR M.length cR) M.length (idsV M)))
  case atStart => exact ⟨0, rfl, Nat.zero_le _, rfl, by show a0.size ≤ _; omega, HG0.out, HW.out⟩
  case round =>
    obtain ⟨k, hgk, hk, rfl, hsz, hG, hrw⟩ := hrel
    have HG := toHid hgk
    have hk0 : (0 : Int) ≤ (k : Int) := by omega
    clear hgk
    by_cases hlt : k < M.length
    · have hI : (k : Int) < (M.length : Int) := by omega
      obtain ⟨⟨xa, xs'⟩, hx⟩ : ∃ x, M[k]? = some x := ⟨_, List.getElem?_eq_getElem hlt⟩
      have hxm := List.mem_of_getElem? hx
      obtain ⟨_, _, e, _, f1⟩ := hrw.out
      cases e
      obtain ⟨p1, o1, cur, fz, rfl, hbk, g1⟩ := f1 (by omega)
      have r0 : wr.cell? ⟨p1, o1 + k * 2, none⟩ = some (.int .u64 xa) := by rw [cell_of_row _ _ _ _ _ _ hbk]; exact g1 (k * 2) _ (ids_at hx).1
      have r1 : wr.cell? ⟨p1, o1 + k * 2 + 1, none⟩ = some (.int .i64 xs') := by rw [cell_of_row _ _ _ _ _ _ hbk]; exact g1 (k * 2 + 1) _ (ids_at hx).2
      have hx64 := H6.out _ hxm
      obtain ⟨i1, i2, i3, i4⟩ := HIN.out _ hxm
      simp only at hx64 i2 i3 i4
      have hts := tellB_size out HX.out.few xa
      have hds := decB_size xs' (by omega) (by omega)
      have HE : Hid (gIds out a0 (M.take (k + 1)) = gId out (gIds out a0 (M.take k)) (xa, xs')) := gIds_take hx
      have hne := gId_ne (A := gIds out a0 (M.take k)) i1
      rw [← HE.out] at hne
      have HT : Hid ((gIds out a0 (M.take (k + 1))).data.toList = (gIds out a0 (M.take k)).data.toList ++ (joinB [⟨#[105, 100]⟩, decB xs', tellB out xa] ++ [10])) := by
        show _ = _
        rw [HE.out]
        exact id_line i1 i2 i3
      have HSZ : Hid ((gIds out a0 (M.take (k + 1))).size ≤ 100000000000 + (k + 1) * 80) := by
        show _ ≤ _
        rw [HE.out]
        have := gId_size HX.out.few (gIds out a0 (M.take k)) (x := (xa, xs')) hx64.2
        omega
      have hjl : (joinB [⟨#[105, 100]⟩, decB xs', tellB out xa]).length ≤ 1000 := by
        rw [joinB_cons]
        have h1 := join_len (l := [decB xs', tellB out xa]) 22 (by intro t ht; simp at ht; rcases ht with rfl | rfl <;> omega)
        rw [List.length_append]
        have h2 : (ByteArray.mk #[105, 100]).data.toList.length = 2 := rfl
        simp only [List.length_cons, List.length_nil] at h1
        omega
      have hal : (gIds out a0 (M.take k)).data.toList.length ≤ 100000000000000 := by
        have : (gIds out a0 (M.take k)).data.toList.length = (gIds out a0 (M.take k)).size := Array.length_toList
        omega
      have KI : Hid (∀ W, Below w0.heap.size w0 W → Calls Tryz.prog 28 #[.int .i64 xs'] W fun ev w' => ev = .returned (.string (decB xs')) ∧ Below W.heap.size W w') := fun W hW => itoa_at (by omega) (by omega) W (HX.out.at hW).tab
      have KT : Hid (∀ W, GW qg bl bm n ol oc oo D B xs w0 (gIds out a0 (M.take k)).data.toList W → Calls Tryz.prog 27 #[.agg #[.slice oo ol oc, .map (some bm)], .int .u64 xa] W fun ev w' => ev = .returned (.string (tellB out xa)) ∧ Below W.heap.size W w') := fun W hW => tell_any a bm n ol oc oo _ out HX.out.few HX.out.num xa hx64.1.1 hx64.1.2 (fun h => by omega) (by omega) (Or.inl i4) W (HX.out.at hW.below).err (HX.out.at hW.below).tab hW.map
      have KA : Hid (∀ W, GW qg bl bm n ol oc oo D B xs w0 (gIds out a0 (M.take k)).data.toList W → Calls Tryz.prog 26 #[.pointer (some ⟨bl, 0, none⟩), .slice (some ⟨W.heap.size, 0, none⟩) 3 3] (W.alloc (.cells #[.string ⟨#[105, 100]⟩, .string (decB xs'), .string (tellB out xa)] 9)) (LinePost bl bl (gIds out a0 (M.take (k + 1))).data.toList (W.alloc (.cells #[.string ⟨#[105, 100]⟩, .string (decB xs'), .string (tellB out xa)] 9)))) := fun W hW => by
        have G3 := hW.keep ((Below.refl _ _).alloc (Nat.le_refl _) (.cells #[.string ⟨#[105, 100]⟩, .string (decB xs'), .string (tellB out xa)] 9))
        have hob := heap_alloc_new W (.cells #[.string ⟨#[105, 100]⟩, .string (decB xs'), .string (tellB out xa)] 9)
        rw [HT.out]
        exact add_any bl bl W.heap.size 0 3 [⟨#[105, 100]⟩, decB xs', tellB out xa] _ _ G3.bld (Nat.le_of_lt G3.lt) (fun j y hj => by
          rw [cell_of_row _ _ _ _ _ _ hob, Nat.zero_add]
          match j, hj with
          | 0, hj => cases hj; rfl
          | 1, hj => cases hj; rfl
          | 2, hj => cases hj; rfl) (lt_of_heap hob) (by simp) (by simp) (by omega) hal
      have HNE := toHid hne
      have HRW := toHid (rowT_below hrw.out ((Below.refl wr.heap.size wr).alloc (Nat.le_refl _) (.cells #[.int .u64 xa, .int .i64 xs'] 62)))
      obtain ⟨AT, hAT⟩ : ∃ AT, AT = (gIds out a0 (M.take k)).data.toList := ⟨_, rfl⟩
      obtain ⟨AN, hAN⟩ : ∃ AN, AN = (gIds out a0 (M.take (k + 1))).data.toList := ⟨_, rfl⟩
      rw [← hAT] at KT KA hG
      rw [← hAN] at KA HNE
      have HAN := toHid hAN
      generalize tellB out xa = tx at *
      generalize decB xs' = dx at *
      go_upto_region 24 with fail
      obtain ⟨w2, hw2⟩ : ∃ w2, w2 = wr.alloc (.cells #[.int .u64 xa, .int .i64 xs'] 62) := ⟨_, rfl⟩
      obtain ⟨q, hq⟩ : ∃ q, q = wr.heap.size := ⟨_, rfl⟩
      have hF := GQ.new hG.out #[.int .u64 xa, .int .i64 xs'] 62
      rw [← hw2, ← hq] at hF
      rw [← hw2] at HRW
      rw [← hw2, ← hq]
      have hS := hF.four
      clear f1 g1 hx hx64 i1 i2 i3 i4 hts hds hne hjl hal hAT hAN HE HT hsz hxm hbk r0 r1 hw2 hq hG hrw
      have hRT := HRW.out
      go_region_held3 (fun W => W.cell? ⟨q, 0, none⟩ = some (.int .u64 xa) ∧ W.cell? ⟨q, 1, none⟩ = some (.int .i64 xs') ∧ W.cell? ⟨qg, 0, none⟩ = some (.slice oo ol oc) ∧ W.cell? ⟨qg, 1, none⟩ = some (.map (some bm))) (first | with_reducible exact hF.four | with_reducible exact hF.drew.four | exact (hF.alloc _).four) (first
        | (go_at_call 28; refine (KI.out _ (by first | with_reducible exact hF.gw.below | with_reducible exact hF.drew.gw.below)).mono ?_; rintro ev wx ⟨rfl, hbx⟩; replace hF : GQ qg bl bm n ol oc oo D B xs w0 AT q #[.int .u64 xa, .int .i64 xs'] 62 wx := (by first | with_reducible exact hF.keep hbx | with_reducible exact hF.drew.keep hbx); replace hRT : RowT 62 wx (.slice (some ⟨p1, o1, none⟩) M.length cR) M.length (idsV M) := (by first | with_reducible exact rowT_below hRT hbx | with_reducible exact rowT_below (rowT_drew hRT) hbx); clear hbx)
        | (go_at_call 27; refine (KT.out _ hF.gw).mono ?_; rintro ev wx ⟨rfl, hbx⟩; replace hF := hF.keep hbx; replace hRT := rowT_below hRT hbx; clear hbx)
        | (go_at_call 26; refine (KA.out _ hF.gw).mono ?_; intro ev wx hpx; have he := hpx.1; subst he; replace hRT := rowT_others (rowT_below hRT ((Below.refl _ _).alloc (Nat.le_refl _) _)) (hF.alloc _).gw hpx.2.2.2 (by decide) (by decide); replace hF := (hF.alloc _).write hpx HNE.out (by decide)))
      have HF := toHid hF
      have HRT := toHid hRT
      clear hS hF hRT hpx
      go_wp2_with fail
      go_roundg (M.length + 1 - (k + 1))
      case measure => have := HG.out; omega
      case rel => exact ⟨k + 1, rfl, by omega, by go_num, HSZ.out, by show GW _ _ _ _ _ _ _ _ _ _ _ _ _; rw [← HAN.out]; exact HF.out.gw, HRT.out⟩
    · have hI : ¬ (k : Int) < (M.length : Int) := by omega
      have HE : Hid (gIds out a0 (M.take k) = gIds out a0 M) := by show _ = _; rw [List.take_of_length_le (by omega)]
      go_wp2_with fail
      have e := hG.out
      rw [HE.out] at e
      exact HR.out _ _ _ _ _ _ _ _ _ _ _ _ _ _ _ _ e
end Go.Proofs.YtebhakmladbjlaaGreatDoor
