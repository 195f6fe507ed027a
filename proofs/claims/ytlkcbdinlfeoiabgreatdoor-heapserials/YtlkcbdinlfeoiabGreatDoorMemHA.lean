/- Graph: lines of IDs, by a contract. -/
import Derived.Test.YtlkcbdinlfeoiabGreatDoorMemGZ
import Derived.Deep.CutBlock
import Derived.Deep.RegionHeld3
namespace Go.Proofs.YtlkcbdinlfeoiabGreatDoor
open Go.RowKit Go.Maps

/-- A block of one's own beside lines and graph. -/
structure GQ (qg bl bm n ol oc : Nat) (oo : Option Addr) (D : DataW Unit) (B : Nat) (xs : List (List Value)) (w0 : World) (acc : List UInt8) (q : Nat) (cs : Array Value) (t : TypeId) (w : World) : Prop where
  gw : GW qg bl bm n ol oc oo D B xs w0 acc w
  own : w.heap[q]? = some (.cells cs t)
  ne : q ≠ bl
theorem GQ.keep {qg bl bm n ol oc : Nat} {oo : Option Addr} {D : DataW Unit} {B : Nat} {xs : List (List Value)} {w0 w w' : World} {acc : List UInt8} {q : Nat} {cs : Array Value} {t : TypeId} (h : GQ qg bl bm n ol oc oo D B xs w0 acc q cs t w) (hb : Below w.heap.size w w') : GQ qg bl bm n ol oc oo D B xs w0 acc q cs t w' := ⟨h.gw.keep hb, (hb.block _ (lt_of_heap h.own)).trans h.own, h.ne⟩
theorem GQ.drew {qg bl bm n ol oc : Nat} {oo : Option Addr} {D : DataW Unit} {B : Nat} {xs : List (List Value)} {w0 w : World} {acc : List UInt8} {q : Nat} {cs : Array Value} {t : TypeId} (h : GQ qg bl bm n ol oc oo D B xs w0 acc q cs t w) : GQ qg bl bm n ol oc oo D B xs w0 acc q cs t w.drew := h.keep (Below.refl _ _).drew
theorem GQ.alloc {qg bl bm n ol oc : Nat} {oo : Option Addr} {D : DataW Unit} {B : Nat} {xs : List (List Value)} {w0 w : World} {acc : List UInt8} {q : Nat} {cs : Array Value} {t : TypeId} (h : GQ qg bl bm n ol oc oo D B xs w0 acc q cs t w) (o : Obj) : GQ qg bl bm n ol oc oo D B xs w0 acc q cs t (w.alloc o) := h.keep ((Below.refl _ _).alloc (Nat.le_refl _) o)
theorem GQ.new {qg bl bm n ol oc : Nat} {oo : Option Addr} {D : DataW Unit} {B : Nat} {xs : List (List Value)} {w0 w : World} {acc : List UInt8} (h : GW qg bl bm n ol oc oo D B xs w0 acc w) (cs : Array Value) (t : TypeId) : GQ qg bl bm n ol oc oo D B xs w0 acc w.heap.size cs t (w.alloc (.cells cs t)) :=
  ⟨h.keep ((Below.refl _ _).alloc (Nat.le_refl _) _), heap_alloc_new _ _, by have := h.lt; omega⟩
theorem GQ.write {qg bl bm n ol oc : Nat} {oo : Option Addr} {D : DataW Unit} {B : Nat} {xs : List (List Value)} {w0 w w' : World} {acc acc' : List UInt8} {q : Nat} {cs : Array Value} {t : TypeId} {ev : Ending} (h : GQ qg bl bm n ol oc oo D B xs w0 acc q cs t w) (hp : LinePost bl bl acc' w ev w') (hne : acc' ≠ []) (ht : t ≠ 5) : GQ qg bl bm n ol oc oo D B xs w0 acc' q cs t w' := ⟨h.gw.write hp hne, others_cells hp.2.2.2 h.own h.ne ht, h.ne⟩
theorem GQ.cell {qg bl bm n ol oc : Nat} {oo : Option Addr} {D : DataW Unit} {B : Nat} {xs : List (List Value)} {w0 w : World} {acc : List UInt8} {q : Nat} {cs : Array Value} {t : TypeId} (h : GQ qg bl bm n ol oc oo D B xs w0 acc q cs t w) (j : Nat) : w.cell? ⟨q, j, none⟩ = cs[j]? := cell_of_row _ _ j _ _ _ h.own
theorem GQ.gcells {qg bl bm n ol oc : Nat} {oo : Option Addr} {D : DataW Unit} {B : Nat} {xs : List (List Value)} {w0 w : World} {acc : List UInt8} {q : Nat} {cs : Array Value} {t : TypeId} (h : GQ qg bl bm n ol oc oo D B xs w0 acc q cs t w) : w.cell? ⟨qg, 0, none⟩ = some (.slice oo ol oc) ∧ w.cell? ⟨qg, 1, none⟩ = some (.map (some bm)) :=
  ⟨by rw [cell_of_row _ _ 0 _ _ _ h.gw.gr]; rfl, by rw [cell_of_row _ _ 1 _ _ _ h.gw.gr]; rfl⟩
theorem GQ.four {qg bl bm n ol oc : Nat} {oo : Option Addr} {D : DataW Unit} {B : Nat} {xs : List (List Value)} {w0 w : World} {acc : List UInt8} {q : Nat} {v0 v1 : Value} {t : TypeId} (h : GQ qg bl bm n ol oc oo D B xs w0 acc q #[v0, v1] t w) : w.cell? ⟨q, 0, none⟩ = some v0 ∧ w.cell? ⟨q, 1, none⟩ = some v1 ∧ w.cell? ⟨qg, 0, none⟩ = some (.slice oo ol oc) ∧ w.cell? ⟨qg, 1, none⟩ = some (.map (some bm)) := ⟨h.cell 0, h.cell 1, h.gcells⟩
theorem GX.at {a : Nat → Addr} {D : DataW Unit} {out : List Nat} {w0 w : World} (X : GX a D out w0) (hb : Below w0.heap.size w0 w) : GX a D out w := ⟨X.err.below hb, X.tab.below hb (Nat.le_refl _), X.tz.below hb (Nat.le_refl _), X.num, X.few⟩
theorem itoa_at {k : Int} (h0 : -9223372036854775808 ≤ k) (h1 : k ≤ 9223372036854775807) (w : World) (ht : TabbedM w) : Calls Tryz.prog 36 #[.int .i64 k] w fun ev w' => ev = .returned (.string (decB k)) ∧ Below w.heap.size w w' := by
  refine (itoa_any k h0 h1 w ht).mono ?_
  rintro ev w' ⟨rfl, j, os, rfl⟩
  exact ⟨rfl, Lib.below_grow w.heap.size w (Nat.le_refl _) j os⟩
theorem rowT_others {t : TypeId} {w w' : World} {v : Value} {n : Nat} {ys : List Value} {qg bl bm n' ol oc : Nat} {oo : Option Addr} {D : DataW Unit} {B : Nat} {xs : List (List Value)} {w0 : World} {acc : List UInt8} (h : RowT t w v n ys) (G : GW qg bl bm n' ol oc oo D B xs w0 acc w) (ho : Lib.OthersKept 5 (some bl) w w') (ht : t ≠ 5) (hl : t ≠ 116) : RowT t w' v n ys := by
  obtain ⟨ao, cap, e, hc, f⟩ := h
  refine ⟨ao, cap, e, hc, fun hn => ?_⟩
  obtain ⟨b, o, cur, fz, e1, hk, g⟩ := f hn
  obtain ⟨cs, hb⟩ := G.block
  refine ⟨b, o, cur, fz, e1, others_cells ho hk (fun e => ?_) ht, g⟩
  subst e
  have := hk.symm.trans hb
  simp at this
  exact hl this.2.1
theorem rowT_below {t : TypeId} {w w' : World} {v : Value} {n : Nat} {ys : List Value} (h : RowT t w v n ys) (hb : Below w.heap.size w w') : RowT t w' v n ys := by
  obtain ⟨ao, cap, e, hc, f⟩ := h
  refine ⟨ao, cap, e, hc, fun hn => ?_⟩
  obtain ⟨b, o, cur, fz, e1, hk, g⟩ := f hn
  exact ⟨b, o, cur, fz, e1, (hb.block _ (lt_of_heap hk)).trans hk, g⟩
theorem rowT_drew {t : TypeId} {w : World} {v : Value} {n : Nat} {ys : List Value} (h : RowT t w v n ys) : RowT t w.drew v n ys := h
/-- An ID's line, as words. -/
theorem id_line {out : List Nat} {A : ByteArray} {x : Int × Int} (h : hasI out x = true) (h4 : x.1 % 4 = 0) (h5 : x.1 ≠ 0) : (gId out A x).data.toList = A.data.toList ++ (joinB [⟨#[105, 100]⟩, decB x.2, tellB out x.1] ++ [10]) := by
  have h0 : ¬ objI out (ptI x.1) < 0 := by
    have := of_decide_eq_true h
    omega
  have e : tellB out x.1 = ⟨#[64]⟩ ++ decB (objI out (ptI x.1)) := by
    unfold tellB
    rw [if_neg (by omega), if_neg (by omega), if_neg h5, if_neg h0]
  rw [e, joinB_cons]
  unfold gId
  rw [if_neg h0]
  simp [ByteArray.data_append]
theorem gId_ne {out : List Nat} {A : ByteArray} {x : Int × Int} (h : hasI out x = true) : (gId out A x).data.toList ≠ [] := by
  have h0 : ¬ objI out (ptI x.1) < 0 := by
    have := of_decide_eq_true h
    omega
  unfold gId
  rw [if_neg h0]
  intro h
  have := congrArg List.length h
  simp [ByteArray.data_append] at this
theorem gId_size {out : List Nat} (hn : out.length ≤ 300000) (A : ByteArray) {x : Int × Int} (h : -9223372036854775808 ≤ x.2 ∧ x.2 < 9223372036854775808) : (gId out A x).size ≤ A.size + 80 := by
  have hb := objI_bound (vs := out) (x := ptI x.1) hn
  have h1 := decB_size x.2 (by omega) (by omega)
  have h2 := decB_size (objI out (ptI x.1)) (by omega) (by omega)
  unfold gId
  split
  · omega
  · rw [ByteArray.size_append, ByteArray.size_append, ByteArray.size_append, ByteArray.size_append, ByteArray.size_append]
    show _ + 3 + _ + 2 + _ + 1 ≤ _
    omega
set_option maxRecDepth 100000 in
set_option maxHeartbeats 2000000 in
theorem pgraph_b6 {a : Nat → Addr} {qg bl bm n ol oc cR B : Nat} {oo aR : Option Addr} {D : DataW Unit} {out : List Nat} {xs : List (List Value)} {a0 : ByteArray} {M : List (Int × Int)} {w0 wr : World} {u0 u1 u2 u3 u4 u5 u8 u9 u10 u11 u12 u13 u14 u15 u16 u17 u18 u19 u20 u21 u22 u23 u24 u25 u26 u27 u28 u29 u30 u31 u32 u33 u34 u35 u36 u37 u38 u39 u40 u41 u42 u43 u44 u45 u46 u47 u48 u49 u50 u51 u52 u53 u54 u55 u56 u57 u58 u59 u60 u61 u62 u63 u64 u65 u66 u67 u68 u69 u70 u71 u72 u73 u74 u75 u76 u77 u78 u79 u80 u81 u85 u86 u87 u88 u89 u90 u91 u92 u93 u94 u95 u96 u97 u98 u99 : Value} {K : Act → World → Prop} {Q : Exit → Act → World → Prop}
    (X : GX a D out w0) (G : GW qg bl bm n ol oc oo D B xs w0 a0.data.toList wr) (h64 : Ids64 M) (hin : ∀ x ∈ M, hasI out x = true ∧ x.1 % 4 = 0 ∧ x.1 ≠ 0 ∧ x.1 / 4 ≤ 1099511627776) (hll : M.length ≤ 300000) (ha : a0.size ≤ 100000000000) (hrow : RowT 65 wr (.slice aR M.length cR) M.length (idsV M))
    (hrest : ∀ (v85 v86 v87 v88 v89 v90 v91 v92 v93 v94 v95 v96 v97 v15 v84 : Value) (wx : World), (GW qg bl bm n ol oc oo D B xs w0 (gIds out a0 M).data.toList wx) → K ⟨#[u0, u1, u2, u3, u4, u5, .pointer (some ⟨bl, 0, none⟩), .pointer (some ⟨qg, 0, none⟩), u8, u9, u10, u11, u12, u13, u14, v15, u16, u17, u18, u19, u20, u21, u22, u23, u24, u25, u26, u27, u28, u29, u30, u31, u32, u33, u34, u35, u36, u37, u38, u39, u40, u41, u42, u43, u44, u45, u46, u47, u48, u49, u50, u51, u52, u53, u54, u55, u56, u57, u58, u59, u60, u61, u62, u63, u64, u65, u66, u67, u68, u69, u70, u71, u72, u73, u74, u75, u76, u77, u78, u79, u80, u81, .slice aR M.length cR, .int .i64 (M.length : Int), v84, v85, v86, v87, v88, v89, v90, v91, v92, v93, v94, v95, v96, v97, u98, u99], []⟩ wx) :
    Code.wp Tryz.prog (pBlock 6) (Exit.then K Q) ⟨#[u0, u1, u2, u3, u4, u5, .pointer (some ⟨bl, 0, none⟩), .pointer (some ⟨qg, 0, none⟩), u8, u9, u10, u11, u12, u13, u14, u15, u16, u17, u18, u19, u20, u21, u22, u23, u24, u25, u26, u27, u28, u29, u30, u31, u32, u33, u34, u35, u36, u37, u38, u39, u40, u41, u42, u43, u44, u45, u46, u47, u48, u49, u50, u51, u52, u53, u54, u55, u56, u57, u58, u59, u60, u61, u62, u63, u64, u65, u66, u67, u68, u69, u70, u71, u72, u73, u74, u75, u76, u77, u78, u79, u80, u81, .slice aR M.length cR, .int .i64 (M.length : Int), .int .i64 0, u85, u86, u87, u88, u89, u90, u91, u92, u93, u94, u95, u96, u97, u98, u99], []⟩ wr := by
  have HR := toHid hrest
  have H6 := toHid h64
  have HIN := toHid hin
  have HW := toHid hrow
  have HX := toHid X
  have HG0 := toHid G
  clear hrest h64 hin hrow X G
  conv => arg 2; whnf
  go_wp2_with fail
  go_loopg [84] (M.length + 1) (fun gk vi wr => ∃ (k : Nat), gk = M.length + 1 - k ∧ k ≤ M.length ∧ vi = .int .i64 (k : Int) ∧ (gIds out a0 (M.take k)).size ≤ 100000000000 + k * 80 ∧ Hid (GW qg bl bm n ol oc oo D B xs w0 (gIds out a0 (M.take k)).data.toList wr) ∧ Hid (RowT 65 wr (.slice aR M.length cR) M.length (idsV M)))
  case atStart => exact ⟨0, rfl, Nat.zero_le _, rfl, by show a0.size ≤ _; omega, HG0.out, HW.out⟩
  case round =>
    obtain ⟨k, hgk, hk, rfl, hsz, hG, hrw⟩ := hrel
    have HG := toHid hgk
    have hk0 : (0 : Int) ≤ (k : Int) := by omega
    clear hgk
    by_cases hlt : k < M.length
    · have hI : (k : Int) < (M.length : Int) := by omega
      obtain ⟨⟨xa, xs'⟩, hx⟩ : ∃ x, M[k]? = some x := ⟨_, List.getElem?_eq_getElem hlt⟩
      have hxm := List.mem_of_getElem? hx
      obtain ⟨_, _, e, _, f1⟩ := hrw.out
      cases e
      obtain ⟨p1, o1, cur, fz, rfl, hbk, g1⟩ := f1 (by omega)
      have r0 : wr.cell? ⟨p1, o1 + k * 2, none⟩ = some (.int .u64 xa) := by rw [cell_of_row _ _ _ _ _ _ hbk]; exact g1 (k * 2) _ (ids_at hx).1
      have r1 : wr.cell? ⟨p1, o1 + k * 2 + 1, none⟩ = some (.int .i64 xs') := by rw [cell_of_row _ _ _ _ _ _ hbk]; exact g1 (k * 2 + 1) _ (ids_at hx).2
      have hx64 := H6.out _ hxm
      obtain ⟨i1, i2, i3, i4⟩ := HIN.out _ hxm
      simp only at hx64 i2 i3 i4
      have hts := tellB_size out HX.out.few xa
      have hds := decB_size xs' (by omega) (by omega)
      have HE : Hid (gIds out a0 (M.take (k + 1)) = gId out (gIds out a0 (M.take k)) (xa, xs')) := gIds_take hx
      have hne := gId_ne (A := gIds out a0 (M.take k)) i1
      rw [← HE.out] at hne
      have HT : Hid ((gIds out a0 (M.take (k + 1))).data.toList = (gIds out a0 (M.take k)).data.toList ++ (joinB [⟨#[105, 100]⟩, decB xs', tellB out xa] ++ [10])) := by
        show _ = _
        rw [HE.out]
        exact id_line i1 i2 i3
      have HSZ : Hid ((gIds out a0 (M.take (k + 1))).size ≤ 100000000000 + (k + 1) * 80) := by
        show _ ≤ _
        rw [HE.out]
        have := gId_size HX.out.few (gIds out a0 (M.take k)) (x := (xa, xs')) hx64.2
        omega
      have hjl : (joinB [⟨#[105, 100]⟩, decB xs', tellB out xa]).length ≤ 1000 := by
        rw [joinB_cons]
        have h1 := join_len (l := [decB xs', tellB out xa]) 22 (by intro t ht; simp at ht; rcases ht with rfl | rfl <;> omega)
        rw [List.length_append]
        have h2 : (ByteArray.mk #[105, 100]).data.toList.length = 2 := rfl
        simp only [List.length_cons, List.length_nil] at h1
        omega
      have hal : (gIds out a0 (M.take k)).data.toList.length ≤ 100000000000000 := by
        have : (gIds out a0 (M.take k)).data.toList.length = (gIds out a0 (M.take k)).size := Array.length_toList
        omega
      have KI : Hid (∀ W, Below w0.heap.size w0 W → Calls Tryz.prog 36 #[.int .i64 xs'] W fun ev w' => ev = .returned (.string (decB xs')) ∧ Below W.heap.size W w') := fun W hW => itoa_at (by omega) (by omega) W (HX.out.at hW).tab
      have KT : Hid (∀ W, GW qg bl bm n ol oc oo D B xs w0 (gIds out a0 (M.take k)).data.toList W → Calls Tryz.prog 60 #[.agg #[.slice oo ol oc, .map (some bm)], .int .u64 xa] W fun ev w' => ev = .returned (.string (tellB out xa)) ∧ Below W.heap.size W w') := fun W hW => tell_any a bm n ol oc oo _ out HX.out.few HX.out.num xa hx64.1.1 hx64.1.2 (fun h => by omega) (by omega) (Or.inl i4) W (HX.out.at hW.below).err (HX.out.at hW.below).tab hW.map
      have KA : Hid (∀ W, GW qg bl bm n ol oc oo D B xs w0 (gIds out a0 (M.take k)).data.toList W → Calls Tryz.prog 59 #[.pointer (some ⟨bl, 0, none⟩), .slice (some ⟨W.heap.size, 0, none⟩) 3 3] (W.alloc (.cells #[.string ⟨#[105, 100]⟩, .string (decB xs'), .string (tellB out xa)] 9)) (LinePost bl bl (gIds out a0 (M.take (k + 1))).data.toList (W.alloc (.cells #[.string ⟨#[105, 100]⟩, .string (decB xs'), .string (tellB out xa)] 9)))) := fun W hW => by
        have G3 := hW.keep ((Below.refl _ _).alloc (Nat.le_refl _) (.cells #[.string ⟨#[105, 100]⟩, .string (decB xs'), .string (tellB out xa)] 9))
        have hob := heap_alloc_new W (.cells #[.string ⟨#[105, 100]⟩, .string (decB xs'), .string (tellB out xa)] 9)
        rw [HT.out]
        exact add_any bl bl W.heap.size 0 3 [⟨#[105, 100]⟩, decB xs', tellB out xa] _ _ G3.bld (Nat.le_of_lt G3.lt) (fun j y hj => by
          rw [cell_of_row _ _ _ _ _ _ hob, Nat.zero_add]
          match j, hj with
          | 0, hj => cases hj; rfl
          | 1, hj => cases hj; rfl
          | 2, hj => cases hj; rfl) (lt_of_heap hob) (by simp) (by simp) (by omega) hal
      have HNE := toHid hne
      have HRW := toHid (rowT_below hrw.out ((Below.refl wr.heap.size wr).alloc (Nat.le_refl _) (.cells #[.int .u64 xa, .int .i64 xs'] 65)))
      obtain ⟨AT, hAT⟩ : ∃ AT, AT = (gIds out a0 (M.take k)).data.toList := ⟨_, rfl⟩
      obtain ⟨AN, hAN⟩ : ∃ AN, AN = (gIds out a0 (M.take (k + 1))).data.toList := ⟨_, rfl⟩
      rw [← hAT] at KT KA hG
      rw [← hAN] at KA HNE
      have HAN := toHid hAN
      generalize tellB out xa = tx at *
      generalize decB xs' = dx at *
      go_upto_region 24 with fail
      obtain ⟨w2, hw2⟩ : ∃ w2, w2 = wr.alloc (.cells #[.int .u64 xa, .int .i64 xs'] 65) := ⟨_, rfl⟩
      obtain ⟨q, hq⟩ : ∃ q, q = wr.heap.size := ⟨_, rfl⟩
      have hF := GQ.new hG.out #[.int .u64 xa, .int .i64 xs'] 65
      rw [← hw2, ← hq] at hF
      rw [← hw2] at HRW
      rw [← hw2, ← hq]
      have hS := hF.four
      clear f1 g1 hx hx64 i1 i2 i3 i4 hts hds hne hjl hal hAT hAN HE HT hsz hxm hbk r0 r1 hw2 hq hG hrw
      have hRT := HRW.out
      go_region_held3 (fun W => W.cell? ⟨q, 0, none⟩ = some (.int .u64 xa) ∧ W.cell? ⟨q, 1, none⟩ = some (.int .i64 xs') ∧ W.cell? ⟨qg, 0, none⟩ = some (.slice oo ol oc) ∧ W.cell? ⟨qg, 1, none⟩ = some (.map (some bm))) (first | with_reducible exact hF.four | with_reducible exact hF.drew.four | exact (hF.alloc _).four) (first
        | (go_at_call 36; refine (KI.out _ (by first | with_reducible exact hF.gw.below | with_reducible exact hF.drew.gw.below)).mono ?_; rintro ev wx ⟨rfl, hbx⟩; replace hF : GQ qg bl bm n ol oc oo D B xs w0 AT q #[.int .u64 xa, .int .i64 xs'] 65 wx := (by first | with_reducible exact hF.keep hbx | with_reducible exact hF.drew.keep hbx); replace hRT : RowT 65 wx (.slice (some ⟨p1, o1, none⟩) M.length cR) M.length (idsV M) := (by first | with_reducible exact rowT_below hRT hbx | with_reducible exact rowT_below (rowT_drew hRT) hbx); clear hbx)
        | (go_at_call 60; refine (KT.out _ hF.gw).mono ?_; rintro ev wx ⟨rfl, hbx⟩; replace hF := hF.keep hbx; replace hRT := rowT_below hRT hbx; clear hbx)
        | (go_at_call 59; refine (KA.out _ hF.gw).mono ?_; intro ev wx hpx; have he := hpx.1; subst he; replace hRT := rowT_others (rowT_below hRT ((Below.refl _ _).alloc (Nat.le_refl _) _)) (hF.alloc _).gw hpx.2.2.2 (by decide) (by decide); replace hF := (hF.alloc _).write hpx HNE.out (by decide)))
      have HF := toHid hF
      have HRT := toHid hRT
      clear hS hF hRT hpx
      go_wp2_with fail
      go_roundg (M.length + 1 - (k + 1))
      case measure => have := HG.out; omega
      case rel => exact ⟨k + 1, rfl, by omega, by go_num, HSZ.out, by show GW _ _ _ _ _ _ _ _ _ _ _ _ _; rw [← HAN.out]; exact HF.out.gw, HRT.out⟩
    · have hI : ¬ (k : Int) < (M.length : Int) := by omega
      have HE : Hid (gIds out a0 (M.take k) = gIds out a0 M) := by show _ = _; rw [List.take_of_length_le (by omega)]
      go_wp2_with fail
      have e := hG.out
      rw [HE.out] at e
      exact HR.out _ _ _ _ _ _ _ _ _ _ _ _ _ _ _ _ e
end Go.Proofs.YtlkcbdinlfeoiabGreatDoor
