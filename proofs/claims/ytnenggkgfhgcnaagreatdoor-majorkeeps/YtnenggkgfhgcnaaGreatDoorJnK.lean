/- The document's memory: the fields of an object as text (GraphOf's inner loop), by a contract. -/
import Derived.Test.YtnenggkgfhgcnaaGreatDoorJnJ
import Derived.Deep.QuietTactic
import Derived.BigQuiet
import Derived.Deep.RegionHeld3
import Derived.Test.YtnenggkgfhgcnaaGreatDoorJoF
namespace Go.Proofs.YtnenggkgfhgcnaaGreatDoor
open Go.RowKit

theorem belowQ {B : Nat} {a w : World} (n : Nat) (h : Below B a w) : Below B a (w.drewN n) := ⟨h.os, h.tape, h.output, h.size, h.block⟩
def sHex : ByteArray := ⟨#[32, 48, 120]⟩
/-- A field more. -/
def gField (kd : Int) (out : List Nat) (acc : ByteArray) (x : Int) : ByteArray := if kd < 8 then (acc ++ ⟨#[32, 48, 120]⟩) ++ ⟨(hexL x.toNat 16).toArray⟩ else (acc ++ ⟨#[32]⟩) ++ tellB out x
def gFields (kd : Int) (out : List Nat) (acc : ByteArray) (l : List Int) : ByteArray := l.foldl (gField kd out) acc
theorem gFields_take {kd : Int} {out : List Nat} {acc : ByteArray} {l : List Int} {k : Nat} {x : Int} (h : l[k]? = some x) : gFields kd out acc (l.take (k + 1)) = gField kd out (gFields kd out acc (l.take k)) x := by
  unfold gFields
  rw [List.take_add_one, h, List.foldl_append]
  rfl
set_option maxRecDepth 100000 in
set_option maxHeartbeats 2000000 in
theorem graph_b4 {p o oc q f sz nW cW bW oW : Nat} {oo : Option Addr} {F : Nat → Int} {out : List Nat} {a0 : ByteArray} {kd ag : Int} {wr : World} {u1 u2 u3 u6 u7 u10 u11 u12 u13 u14 u15 u16 u17 u18 u19 u20 u21 u22 u23 u24 u25 u26 u27 u28 u29 u30 u31 u32 u33 u34 u35 u36 u37 u38 u39 u40 u41 u42 u43 u44 u45 u46 u47 u48 u49 u50 u51 u52 u53 u54 u55 u56 u57 u58 u59 u60 u61 u62 u63 u64 u65 u66 u67 u68 u69 u70 u71 u72 u73 u74 u75 u76 u77 u78 u79 u80 u81 u82 u83 u84 u85 u86 u87 u88 u89 u90 u91 u92 u93 u94 u95 u96 u97 u98 u99 u100 u101 u102 u103 u104 u105 u106 u107 u108 u109 u110 u111 u112 u113 u114 u115 u116 u117 u118 u119 u120 u121 u122 u123 u124 u125 u126 u127 u128 u129 u130 u131 u132 u133 u134 u135 u136 u137 u138 u139 u140 u141 u142 u143 u144 u145 u146 u147 u148 u149 u150 u151 u152 u153 u154 u155 u156 u157 u158 u159 u160 u161 u162 u163 u164 u165 u166 u167 u168 u169 u170 u171 u172 u173 u174 u175 u176 u177 u178 u179 u180 u181 u182 u183 u184 u185 u186 u187 u188 u189 u190 u191 u192 : Value} {K : Act → World → Prop} {Q : Exit → Act → World → Prop}
    (hn : out.length ≤ 300000) (ha : a0.size ≤ 1000000000000000) (hsz : szN (F f) = sz) (hs4 : sz ≤ 4096) (hfs : f + 1 + sz ≤ nW) (hnW : nW ≤ 300000) (hx64 : U64 (fieldsP F f)) (hcon : ¬ kd < 8 → ∀ x ∈ fieldsP F f, x % 4 = 2 → x / 4 ≤ 2)
    (o0 : wr.cell? ⟨q, 0, none⟩ = some (.int .i64 (f : Int))) (o1 : wr.cell? ⟨q, 1, none⟩ = some (.int .i64 kd)) (o2 : wr.cell? ⟨q, 2, none⟩ = some (.int .i64 ag)) (o3 : wr.cell? ⟨q, 3, none⟩ = some (.int .i64 (sz : Int)))
    (c3 : wr.cell? ⟨p, o + 3, none⟩ = some (.slice (some ⟨bW, oW, none⟩) nW cW)) (hw : ∀ i, i < nW → wr.cell? ⟨bW, oW + i, none⟩ = some (.int .u64 (F i))) (hout : RowV wr (.slice oo out.length oc) out.length (objsV F out))
    (hrest : ∀ (v60 v61 v62 v63 v64 v65 v66 v67 v68 v69 v70 v71 v72 v73 v74 v75 v76 v77 v78 v79 v80 v81 v82 v83 v84 v85 v86 v87 v88 v89 v90 v9 v10 : Value) (wx : World), (Below wr.heap.size wr wx) → K ⟨#[.pointer (some ⟨p, o, none⟩), u1, u2, u3, .slice oo out.length oc, .string (gFields kd out a0 (fieldsP F f)), u6, u7, .pointer (some ⟨q, 0, none⟩), v9, v10, u11, u12, u13, u14, u15, u16, u17, u18, u19, u20, u21, u22, u23, u24, u25, u26, u27, u28, u29, u30, u31, u32, u33, u34, u35, u36, u37, u38, u39, u40, u41, u42, u43, u44, u45, u46, u47, u48, u49, u50, u51, u52, u53, u54, u55, u56, u57, u58, u59, v60, v61, v62, v63, v64, v65, v66, v67, v68, v69, v70, v71, v72, v73, v74, v75, v76, v77, v78, v79, v80, v81, v82, v83, v84, v85, v86, v87, v88, v89, v90, u91, u92, u93, u94, u95, u96, u97, u98, u99, u100, u101, u102, u103, u104, u105, u106, u107, u108, u109, u110, u111, u112, u113, u114, u115, u116, u117, u118, u119, u120, u121, u122, u123, u124, u125, u126, u127, u128, u129, u130, u131, u132, u133, u134, u135, u136, u137, u138, u139, u140, u141, u142, u143, u144, u145, u146, u147, u148, u149, u150, u151, u152, u153, u154, u155, u156, u157, u158, u159, u160, u161, u162, u163, u164, u165, u166, u167, u168, u169, u170, u171, u172, u173, u174, u175, u176, u177, u178, u179, u180, u181, u182, u183, u184, u185, u186, u187, u188, u189, u190, u191, u192], []⟩ wx) :
    Code.wp Tryz.prog (gBlock 4) (Exit.then K Q) ⟨#[.pointer (some ⟨p, o, none⟩), u1, u2, u3, .slice oo out.length oc, .string a0, u6, u7, .pointer (some ⟨q, 0, none⟩), .int .i64 0, u10, u11, u12, u13, u14, u15, u16, u17, u18, u19, u20, u21, u22, u23, u24, u25, u26, u27, u28, u29, u30, u31, u32, u33, u34, u35, u36, u37, u38, u39, u40, u41, u42, u43, u44, u45, u46, u47, u48, u49, u50, u51, u52, u53, u54, u55, u56, u57, u58, u59, u60, u61, u62, u63, u64, u65, u66, u67, u68, u69, u70, u71, u72, u73, u74, u75, u76, u77, u78, u79, u80, u81, u82, u83, u84, u85, u86, u87, u88, u89, u90, u91, u92, u93, u94, u95, u96, u97, u98, u99, u100, u101, u102, u103, u104, u105, u106, u107, u108, u109, u110, u111, u112, u113, u114, u115, u116, u117, u118, u119, u120, u121, u122, u123, u124, u125, u126, u127, u128, u129, u130, u131, u132, u133, u134, u135, u136, u137, u138, u139, u140, u141, u142, u143, u144, u145, u146, u147, u148, u149, u150, u151, u152, u153, u154, u155, u156, u157, u158, u159, u160, u161, u162, u163, u164, u165, u166, u167, u168, u169, u170, u171, u172, u173, u174, u175, u176, u177, u178, u179, u180, u181, u182, u183, u184, u185, u186, u187, u188, u189, u190, u191, u192], []⟩ wr := by
  have HR := toHid hrest
  have HX64 := toHid hx64
  have HCON := toHid hcon
  have HWW := toHid hw
  have HO := toHid hout
  have HLN : Hid ((fieldsP F f).length = sz) := by show _ = _; rw [fieldsP_len, hsz]
  have HAT : Hid (∀ k, k < sz → (fieldsP F f)[k]? = some (F (f + 1 + k))) := fun k hk => fieldsP_at (by rw [hsz]; exact hk)
  obtain ⟨w, hww⟩ : ∃ w, w = wr := ⟨_, rfl⟩
  subst hww
  have lq : q < w.heap.size := lt_of_cell o0
  clear hrest hx64 hcon hw hout hsz
  conv => arg 2; whnf
  go_wp2_with fail
  go_loopg [5, 9] (sz + 1) (fun gk va vi wr => ∃ (k : Nat) (acc : ByteArray), gk = sz + 1 - k ∧ k ≤ sz ∧ vi = .int .i64 (k : Int) ∧ va = .string acc ∧ acc.size ≤ 1000000000000000 + k * 28 ∧ Below w.heap.size w wr ∧ Hid (acc = gFields kd out a0 ((fieldsP F f).take k)))
  case atStart => exact ⟨0, a0, rfl, Nat.zero_le _, rfl, rfl, by omega, Below.refl _ _, rfl⟩
  case round =>
    obtain ⟨k, acc, hgk, hk, rfl, rfl, hsza, hb, hacc⟩ := hrel
    have HG := toHid hgk
    have hk0 : (0 : Int) ≤ (k : Int) := by omega
    have p0 := (hb.cell (p := ⟨q, 0, none⟩) lq).trans o0
    have p3 := (hb.cell (p := ⟨q, 3, none⟩) lq).trans o3
    have pc := (hb.cell (p := ⟨p, o + 3, none⟩) (lt_of_cell c3)).trans c3
    have HB := toHid hb
    clear hgk hb
    by_cases hlt : k < sz
    · have hI : (k : Int) < (sz : Int) := by omega
      obtain ⟨x, hx⟩ : ∃ x, x = F (f + 1 + k) := ⟨_, rfl⟩
      have hxf := HAT.out k hlt
      rw [← hx] at hxf
      have hwc := HWW.out (f + 1 + k) (by omega)
      have rx : wr.cell? ⟨bW, oW + (f + 1 + k), none⟩ = some (.int .u64 x) := by rw [hx]; exact (HB.out.cell (p := ⟨bW, oW + (f + 1 + k), none⟩) (lt_of_cell hwc)).trans hwc
      have hxr := HX64.out x (List.mem_of_getElem? hxf)
      have hts := tellB_size out hn x
      have e1 : IntKind.i64.wrap ((f : Int) + 1) = (f : Int) + 1 := wrapI _ (by omega) (by omega)
      have e2 : IntKind.i64.wrap ((f : Int) + 1 + (k : Int)) = (((f + 1 + k : Nat)) : Int) := by rw [wrapI _ (by omega) (by omega)]; omega
      have hy0 : (0 : Int) ≤ ((f + 1 + k : Nat) : Int) := by omega
      have hy1 : ((f + 1 + k : Nat) : Int) < (nW : Int) := by omega
      have HE : Hid (gField kd out acc x = gFields kd out a0 ((fieldsP F f).take (k + 1))) := by show _ = _; rw [gFields_take hxf, ← hacc.out]
      have HMEM := toHid (List.mem_of_getElem? hxf)
      clear hx hxf hwc hacc
      go_upto_region 15 with fail
      go_quiet (fail)
      go_upto_region 16 with fail
      obtain ⟨wv, hwv⟩ : ∃ wv, wv = wr.drewN nq := ⟨_, rfl⟩
      rw [← hwv]
      have hbv : Below w.heap.size w wv := by rw [hwv]; exact belowQ _ HB.out
      have r1 := (hbv.cell (p := ⟨q, 1, none⟩) lq).trans o1
      have HBV := toHid hbv
      clear hwv hbv rx p0 p3 pc
      by_cases hr : kd < 8
      · obtain ⟨xn, hxn⟩ : ∃ xn : Nat, (xn : Int) = x := ⟨x.toNat, by omega⟩
        have kh := hex_any xn (by omega) wv
        rw [hxn] at kh
        have HE2 : Hid ((acc ++ ⟨#[32, 48, 120]⟩) ++ ⟨(hexL xn 16).toArray⟩ = gFields kd out a0 ((fieldsP F f).take (k + 1))) := by
          show _ = _
          rw [← HE.out, ← hxn]
          unfold gField
          rw [if_pos hr]
          rfl
        have hhl : (⟨(hexL xn 16).toArray⟩ : ByteArray).size = 16 := by show (hexL xn 16).toArray.size = 16; rw [List.size_toArray, hexL_len]
        generalize (⟨(hexL xn 16).toArray⟩ : ByteArray) = hx at *
        have a1 := fun wx => run_string_add_sum (P := Tryz.prog) (w := wx) acc ⟨#[32, 48, 120]⟩ (by show acc.size + 3 ≤ _; omega)
        have hs1 : (acc ++ ⟨#[32, 48, 120]⟩).size = acc.size + 3 := by rw [ByteArray.size_append]; rfl
        have a2 := fun wx => run_string_add_sum (P := Tryz.prog) (w := wx) (acc ++ ⟨#[32, 48, 120]⟩) hx (by rw [hs1]; omega)
        have HS2 : Hid (((acc ++ ⟨#[32, 48, 120]⟩) ++ hx).size ≤ 1000000000000000 + (k + 1) * 28) := by show _ ≤ _; rw [ByteArray.size_append, hs1]; omega
        clear hs1 hhl HE hxn
        go_wp2_with fail
        refine kh.mono ?_
        rintro ev w2 ⟨rfl, hq⟩
        rw [hq]
        clear hq w2 kh
        go_wp2_with fail
        go_roundg (sz + 1 - (k + 1))
        case measure => have := HG.out; omega
        case rel => exact ⟨k + 1, _, rfl, by omega, by go_num, rfl, HS2.out, HBV.out, HE2.out⟩
      · have kt := told_any F out oo oc hn x hxr.1 hxr.2 (HCON.out (by omega) x HMEM.out) wv (HO.out.below HBV.out)
        have HE2 : Hid ((acc ++ ⟨#[32]⟩) ++ tellB out x = gFields kd out a0 ((fieldsP F f).take (k + 1))) := by
          show _ = _
          rw [← HE.out]
          unfold gField
          rw [if_neg hr]
        generalize tellB out x = tx at *
        have a1 := fun wx => run_string_add_sum (P := Tryz.prog) (w := wx) acc ⟨#[32]⟩ (by show acc.size + 1 ≤ _; omega)
        have hs1 : (acc ++ ⟨#[32]⟩).size = acc.size + 1 := by rw [ByteArray.size_append]; rfl
        have a2 := fun wx => run_string_add_sum (P := Tryz.prog) (w := wx) (acc ++ ⟨#[32]⟩) tx (by rw [hs1]; omega)
        have HS2 : Hid (((acc ++ ⟨#[32]⟩) ++ tx).size ≤ 1000000000000000 + (k + 1) * 28) := by show _ ≤ _; rw [ByteArray.size_append, hs1]; omega
        clear hs1 HE
        go_wp2_with fail
        refine kt.mono ?_
        rintro ev w2 ⟨rfl, hb2⟩
        clear kt
        go_wp2_with fail
        go_roundg (sz + 1 - (k + 1))
        case measure => have := HG.out; omega
        case rel => exact ⟨k + 1, _, rfl, by omega, by go_num, rfl, HS2.out, HBV.out.trans (hb2.mono HBV.out.size), HE2.out⟩
    · have hI : ¬ (k : Int) < (sz : Int) := by omega
      have HE : Hid (acc = gFields kd out a0 (fieldsP F f)) := by show _ = _; rw [hacc.out, List.take_of_length_le (by have := HLN.out; omega)]
      go_wp2_with fail
      have e := HE.out
      subst e
      exact HR.out _ _ _ _ _ _ _ _ _ _ _ _ _ _ _ _ _ _ _ _ _ _ _ _ _ _ _ _ _ _ _ _ _ _ HB.out
end Go.Proofs.YtnenggkgfhgcnaaGreatDoor

/- The document's memory: the lines of objects (GraphOf's loop), by a contract. -/
namespace Go.Proofs.YtnenggkgfhgcnaaGreatDoor
open Go.RowKit

/-- An object's line. -/
def gObjT (F : Nat → Int) (out : List Nat) (i f : Nat) (acc : ByteArray) : ByteArray := gFields (F f / 4 % 256) out (((acc ++ decB (i : Int)) ++ ⟨#[32]⟩) ++ decB (F f / 4 % 256)) (fieldsP F f) ++ ⟨#[10]⟩
/-- The lines of the first k objects. -/
def gObjsP (F : Nat → Int) (out : List Nat) (acc : ByteArray) : Nat → ByteArray
  | 0 => acc
  | k + 1 => match out[k]? with
    | some f => gObjT F out k f (gObjsP F out acc k)
    | none => gObjsP F out acc k
theorem gObjsP_next {F : Nat → Int} {out : List Nat} {acc : ByteArray} {k f : Nat} (h : out[k]? = some f) : gObjsP F out acc (k + 1) = gObjT F out k f (gObjsP F out acc k) := by
  conv => lhs; unfold gObjsP
  rw [h]
theorem gField_size (kd : Int) (out : List Nat) (hn : out.length ≤ 300000) (acc : ByteArray) (x : Int) : (gField kd out acc x).size ≤ acc.size + 28 := by
  unfold gField
  have := tellB_size out hn x
  split
  · rw [ByteArray.size_append, ByteArray.size_append]
    have : (⟨(hexL x.toNat 16).toArray⟩ : ByteArray).size = 16 := by show (hexL x.toNat 16).toArray.size = 16; rw [List.size_toArray, hexL_len]
    show acc.size + 3 + _ ≤ _
    omega
  · rw [ByteArray.size_append, ByteArray.size_append]
    show acc.size + 1 + _ ≤ _
    omega
theorem gFields_size (kd : Int) (out : List Nat) (hn : out.length ≤ 300000) : ∀ (l : List Int) (acc : ByteArray), (gFields kd out acc l).size ≤ acc.size + 28 * l.length
  | [], acc => by simp [gFields]
  | x :: l, acc => by
    have h1 := gField_size kd out hn acc x
    have h2 := gFields_size kd out hn l (gField kd out acc x)
    show (gFields kd out (gField kd out acc x) l).size ≤ _
    rw [List.length_cons]
    omega
/-- Objects whose fields have a text. -/
structure ObjsT (F : Nat → Int) (out : List Nat) (nW : Nat) : Prop where
  fine : ∀ f ∈ out, headB (F f) = true ∧ f + 1 + szN (F f) ≤ nW
  range : ∀ i, i < nW → 0 ≤ F i ∧ F i < 18446744073709551616
  const : ∀ f ∈ out, ¬ F f / 4 % 256 < 8 → ∀ x ∈ fieldsP F f, x % 4 = 2 → x / 4 ≤ 2
set_option maxRecDepth 100000 in
set_option maxHeartbeats 2000000 in
theorem graph_b2 {p o oc nW cW bW oW : Nat} {oo : Option Addr} {F : Nat → Int} {out : List Nat} {a0 : ByteArray} {wr : World} {u1 u2 u3 u6 u8 u9 u10 u11 u12 u13 u14 u15 u16 u17 u18 u19 u20 u21 u22 u23 u24 u25 u26 u27 u28 u29 u30 u31 u32 u33 u34 u35 u36 u37 u38 u39 u40 u41 u42 u43 u44 u45 u46 u47 u48 u49 u50 u51 u52 u53 u54 u55 u56 u57 u58 u59 u60 u61 u62 u63 u64 u65 u66 u67 u68 u69 u70 u71 u72 u73 u74 u75 u76 u77 u78 u79 u80 u81 u82 u83 u84 u85 u86 u87 u88 u89 u90 u91 u92 u93 u94 u95 u96 u97 u98 u99 u100 u101 u102 u103 u104 u105 u106 u107 u108 u109 u110 u111 u112 u113 u114 u115 u116 u117 u118 u119 u120 u121 u122 u123 u124 u125 u126 u127 u128 u129 u130 u131 u132 u133 u134 u135 u136 u137 u138 u139 u140 u141 u142 u143 u144 u145 u146 u147 u148 u149 u150 u151 u152 u153 u154 u155 u156 u157 u158 u159 u160 u161 u162 u163 u164 u165 u166 u167 u168 u169 u170 u171 u172 u173 u174 u175 u176 u177 u178 u179 u180 u181 u182 u183 u184 u185 u186 u187 u188 u189 u190 u191 u192 : Value} {K : Act → World → Prop} {Q : Exit → Act → World → Prop}
    (hn : out.length ≤ 300000) (ha : a0.size ≤ 10000000000000) (hnW : nW ≤ 300000) (hT : ObjsT F out nW) (c3 : wr.cell? ⟨p, o + 3, none⟩ = some (.slice (some ⟨bW, oW, none⟩) nW cW)) (hw : ∀ i, i < nW → wr.cell? ⟨bW, oW + i, none⟩ = some (.int .u64 (F i))) (hout : RowV wr (.slice oo out.length oc) out.length (objsV F out))
    (hrest : ∀ (v41 v42 v43 v44 v45 v46 v47 v48 v49 v50 v51 v52 v53 v54 v55 v56 v57 v58 v59 v60 v61 v62 v63 v64 v65 v66 v67 v68 v69 v70 v71 v72 v73 v74 v75 v76 v77 v78 v79 v80 v81 v82 v83 v84 v85 v86 v87 v88 v89 v90 v91 v92 v7 v8 v9 v10 : Value) (wx : World), (Below wr.heap.size wr wx) → K ⟨#[.pointer (some ⟨p, o, none⟩), u1, u2, u3, .slice oo out.length oc, .string (gObjsP F out a0 out.length), u6, v7, v8, v9, v10, u11, u12, u13, u14, u15, u16, u17, u18, u19, u20, u21, u22, u23, u24, u25, u26, u27, u28, u29, u30, u31, u32, u33, u34, u35, u36, u37, u38, u39, u40, v41, v42, v43, v44, v45, v46, v47, v48, v49, v50, v51, v52, v53, v54, v55, v56, v57, v58, v59, v60, v61, v62, v63, v64, v65, v66, v67, v68, v69, v70, v71, v72, v73, v74, v75, v76, v77, v78, v79, v80, v81, v82, v83, v84, v85, v86, v87, v88, v89, v90, v91, v92, u93, u94, u95, u96, u97, u98, u99, u100, u101, u102, u103, u104, u105, u106, u107, u108, u109, u110, u111, u112, u113, u114, u115, u116, u117, u118, u119, u120, u121, u122, u123, u124, u125, u126, u127, u128, u129, u130, u131, u132, u133, u134, u135, u136, u137, u138, u139, u140, u141, u142, u143, u144, u145, u146, u147, u148, u149, u150, u151, u152, u153, u154, u155, u156, u157, u158, u159, u160, u161, u162, u163, u164, u165, u166, u167, u168, u169, u170, u171, u172, u173, u174, u175, u176, u177, u178, u179, u180, u181, u182, u183, u184, u185, u186, u187, u188, u189, u190, u191, u192], []⟩ wx) :
    Code.wp Tryz.prog (gBlock 2) (Exit.then K Q) ⟨#[.pointer (some ⟨p, o, none⟩), u1, u2, u3, .slice oo out.length oc, .string a0, u6, .int .i64 0, u8, u9, u10, u11, u12, u13, u14, u15, u16, u17, u18, u19, u20, u21, u22, u23, u24, u25, u26, u27, u28, u29, u30, u31, u32, u33, u34, u35, u36, u37, u38, u39, u40, u41, u42, u43, u44, u45, u46, u47, u48, u49, u50, u51, u52, u53, u54, u55, u56, u57, u58, u59, u60, u61, u62, u63, u64, u65, u66, u67, u68, u69, u70, u71, u72, u73, u74, u75, u76, u77, u78, u79, u80, u81, u82, u83, u84, u85, u86, u87, u88, u89, u90, u91, u92, u93, u94, u95, u96, u97, u98, u99, u100, u101, u102, u103, u104, u105, u106, u107, u108, u109, u110, u111, u112, u113, u114, u115, u116, u117, u118, u119, u120, u121, u122, u123, u124, u125, u126, u127, u128, u129, u130, u131, u132, u133, u134, u135, u136, u137, u138, u139, u140, u141, u142, u143, u144, u145, u146, u147, u148, u149, u150, u151, u152, u153, u154, u155, u156, u157, u158, u159, u160, u161, u162, u163, u164, u165, u166, u167, u168, u169, u170, u171, u172, u173, u174, u175, u176, u177, u178, u179, u180, u181, u182, u183, u184, u185, u186, u187, u188, u189, u190, u191, u192], []⟩ wr := by
  have HR := toHid hrest
  have HT := toHid hT
  have HWW := toHid hw
  have HO := toHid hout
  have HC3 := toHid c3
  obtain ⟨w, hww⟩ : ∃ w, w = wr := ⟨_, rfl⟩
  subst hww
  clear hrest hT hw hout c3
  conv => arg 2; whnf
  go_wp2_with fail
  go_loopg [5, 7] (out.length + 1) (fun gk va vi wr => ∃ (i : Nat) (acc : ByteArray), gk = out.length + 1 - i ∧ i ≤ out.length ∧ vi = .int .i64 (i : Int) ∧ va = .string acc ∧ acc.size ≤ 10000000000000 + i * 200000 ∧ Below w.heap.size w wr ∧ Hid (acc = gObjsP F out a0 i))
  case atStart => exact ⟨0, a0, rfl, Nat.zero_le _, rfl, rfl, by omega, Below.refl _ _, rfl⟩
  case round =>
    obtain ⟨i, acc, hgk, hi, rfl, rfl, hsza, hb, hacc⟩ := hrel
    have HG := toHid hgk
    have hi0 : (0 : Int) ≤ (i : Int) := by omega
    have HB := toHid hb
    clear hgk hb
    by_cases hlt : i < out.length
    · have hI : (i : Int) < (out.length : Int) := by omega
      obtain ⟨f, hf⟩ : ∃ f, out[i]? = some f := ⟨_, List.getElem?_eq_getElem hlt⟩
      have hfm := List.mem_of_getElem? hf
      obtain ⟨hfh, hfl⟩ := HT.out.fine f hfm
      obtain ⟨sz, hsz⟩ : ∃ sz, sz = szN (F f) := ⟨_, rfl⟩
      have hszI : F f / 65536 = (sz : Int) := by
        have := HT.out.range f (by omega)
        rw [hsz]
        unfold szN
        omega
      have hs4 : sz ≤ 4096 := by
        unfold headB at hfh
        have := of_decide_eq_true hfh
        omega
      obtain ⟨_, _, e, _, f1⟩ := HO.out
      cases e
      obtain ⟨p1, o1, rfl, l1, g1⟩ := f1 (by omega)
      have r0 : wr.cell? ⟨p1, o1 + i * 4, none⟩ = some (.int .i64 (f : Int)) := (HB.out.cell (p := ⟨p1, o1 + i * 4, none⟩) l1).trans (g1 (i * 4) _ (objs_at hf 0 (by omega)))
      have r1 : wr.cell? ⟨p1, o1 + i * 4 + 1, none⟩ = some (.int .i64 (F f / 4 % 256)) := (HB.out.cell (p := ⟨p1, o1 + i * 4 + 1, none⟩) l1).trans (g1 (i * 4 + 1) _ (objs_at hf 1 (by omega)))
      have r2 : wr.cell? ⟨p1, o1 + i * 4 + 2, none⟩ = some (.int .i64 (F f / 1024 % 16)) := (HB.out.cell (p := ⟨p1, o1 + i * 4 + 2, none⟩) l1).trans (g1 (i * 4 + 2) _ (objs_at hf 2 (by omega)))
      have r3 : wr.cell? ⟨p1, o1 + i * 4 + 3, none⟩ = some (.int .i64 (sz : Int)) := by rw [← hszI]; exact (HB.out.cell (p := ⟨p1, o1 + i * 4 + 3, none⟩) l1).trans (g1 (i * 4 + 3) _ (objs_at hf 3 (by omega)))
      have hkb : 0 ≤ F f / 4 % 256 ∧ F f / 4 % 256 ≤ 255 := by omega
      obtain ⟨kd, hkd⟩ : ∃ kd, kd = F f / 4 % 256 := ⟨_, rfl⟩
      rw [← hkd] at r1 hkb
      have HKD := toHid hkd
      have HSZ := toHid hsz
      have HF := toHid hf
      have HFM := toHid hfm
      have HFL := toHid hfl
      generalize F f / 1024 % 16 = ag at *
      have hd1 := decB_size (i : Int) (by omega) (by omega)
      have hd2 := decB_size kd (by omega) (by omega)
      have kd1 : Hid (∀ W, Calls Tryz.prog 35 #[.int .i64 (i : Int)] W fun ev w' => ev = .returned (.string (decB (i : Int))) ∧ Below W.heap.size W w') := fun W => decimal_any (i : Int) (by omega) (by omega) W
      have kd2 : Hid (∀ W, Calls Tryz.prog 35 #[.int .i64 kd] W fun ev w' => ev = .returned (.string (decB kd)) ∧ Below W.heap.size W w') := fun W => decimal_any kd (by omega) (by omega) W
      obtain ⟨t1, ht1⟩ : ∃ t1, t1 = decB (i : Int) := ⟨_, rfl⟩
      obtain ⟨t2, ht2⟩ : ∃ t2, t2 = decB kd := ⟨_, rfl⟩
      rw [← ht1] at hd1 kd1
      rw [← ht2] at hd2 kd2
      have HT1 := toHid ht1
      have HT2 := toHid ht2
      have a1 := fun wx => run_string_add_sum (P := Tryz.prog) (w := wx) acc t1 (by omega)
      have hs1 : (acc ++ t1).size = acc.size + t1.size := ByteArray.size_append
      have a2 := fun wx => run_string_add_sum (P := Tryz.prog) (w := wx) (acc ++ t1) ⟨#[32]⟩ (by rw [hs1]; show _ + 1 ≤ _; omega)
      have hs2 : ((acc ++ t1) ++ ⟨#[32]⟩).size = acc.size + t1.size + 1 := by rw [ByteArray.size_append, hs1]; rfl
      have a3 := fun wx => run_string_add_sum (P := Tryz.prog) (w := wx) ((acc ++ t1) ++ ⟨#[32]⟩) t2 (by rw [hs2]; omega)
      have hs3 : (((acc ++ t1) ++ ⟨#[32]⟩) ++ t2).size = acc.size + t1.size + 1 + t2.size := by rw [ByteArray.size_append, hs2]
      have HS3 := toHid hs3
      clear f1 g1 hf hfm hfh hfl hkd hsz hszI ht1 ht2 hs1 hs2 hs3
      go_upto_region 11 with fail
      obtain ⟨w1, hw1⟩ : ∃ w1, w1 = wr.alloc (.cells #[.int .i64 (f : Int), .int .i64 kd, .int .i64 ag, .int .i64 (sz : Int)] 45) := ⟨_, rfl⟩
      rw [← hw1]
      obtain ⟨q, hq⟩ : ∃ q, q = wr.heap.size := ⟨_, rfl⟩
      have ob : w1.heap[q]? = some (.cells #[.int .i64 (f : Int), .int .i64 kd, .int .i64 ag, .int .i64 (sz : Int)] 45) := by rw [hw1, hq]; exact heap_alloc_new _ _
      rw [← hq]
      have b1 : Below w.heap.size w w1 := by rw [hw1]; exact HB.out.alloc HB.out.size _
      have q1 : w1.cell? ⟨q, 1, none⟩ = some (.int .i64 kd) := by rw [cell_of_row _ _ 1 _ _ _ ob]; rfl
      have lq : q < w1.heap.size := lt_of_heap ob
      have HOB := toHid ob
      have HB1 := toHid b1
      have HF1 : Hid (∀ W, Below w1.heap.size w1 W → W.cell? ⟨q, 1, none⟩ = some (.int .i64 kd)) := fun W hW => (hW.cell (p := ⟨q, 1, none⟩) lq).trans q1
      clear hw1 hq ob b1 r0 r1 r2 r3
      go_region_held3 (fun W => W.cell? ⟨q, 1, none⟩ = some (.int .i64 kd)) (first | go_keep | with_reducible exact HF1.out _ hb4 | with_reducible exact HF1.out _ hb3) (first
        | (go_at_call_of 35 kd; refine (kd2.out _).mono ?_; rintro ev w4 ⟨rfl, hb5⟩; have hb4 : Below w1.heap.size w1 w4 := hb3.trans (hb5.mono hb3.size))
        | (go_at_call 35; refine (kd1.out _).mono ?_; rintro ev w2 ⟨rfl, hb2⟩; have hb3 : Below w1.heap.size w1 w2 := ((Below.refl _ _).drew).trans (hb2.mono (by simp))))
      have B4 : Below w.heap.size w w4 := HB1.out.trans (hb4.mono HB1.out.size)
      have ob4 := (hb4.block q lq).trans HOB.out
      have o0 : w4.cell? ⟨q, 0, none⟩ = some (.int .i64 (f : Int)) := by rw [cell_of_row _ _ 0 _ _ _ ob4]; rfl
      have o1' : w4.cell? ⟨q, 1, none⟩ = some (.int .i64 kd) := by rw [cell_of_row _ _ 1 _ _ _ ob4]; rfl
      have o2 : w4.cell? ⟨q, 2, none⟩ = some (.int .i64 ag) := by rw [cell_of_row _ _ 2 _ _ _ ob4]; rfl
      have o3 : w4.cell? ⟨q, 3, none⟩ = some (.int .i64 (sz : Int)) := by rw [cell_of_row _ _ 3 _ _ _ ob4]; rfl
      have hfl := HFL.out
      rw [← HSZ.out] at hfl
      have hsz3 := HS3.out
      obtain ⟨base, hbase⟩ : ∃ base, base = ((acc ++ t1) ++ ⟨#[32]⟩) ++ t2 := ⟨_, rfl⟩
      rw [← hbase] at hsz3
      rw [← hbase]
      have HBASE := toHid hbase
      have hgs := gFields_size kd out hn (fieldsP F f) base
      rw [fieldsP_len, ← HSZ.out] at hgs
      obtain ⟨tot, htot⟩ : ∃ tot, tot = gFields kd out base (fieldsP F f) := ⟨_, rfl⟩
      rw [← htot] at hgs
      have HTOT := toHid htot
      have a4 := fun wx => run_string_add_sum (P := Tryz.prog) (w := wx) tot ⟨#[10]⟩ (by show tot.size + 1 ≤ _; omega)
      have HTS : Hid ((tot ++ ⟨#[10]⟩).size ≤ 10000000000000 + (i + 1) * 200000) := by show _ ≤ _; rw [ByteArray.size_append]; show tot.size + 1 ≤ _; omega
      have HE : Hid (tot ++ ⟨#[10]⟩ = gObjsP F out a0 (i + 1)) := by
        show _ = _
        rw [gObjsP_next HF.out, ← hacc.out, HTOT.out, HBASE.out, HT1.out, HT2.out]
        unfold gObjT
        rw [← HKD.out]
      have HAB : Hid (base.size ≤ 1000000000000000) := by show _ ≤ _; omega
      have HARGS := toHid (And.intro o0 (And.intro o1' (And.intro o2 o3)))
      have HB4 := toHid B4
      clear hbase htot a1 a2 a3 ob4 o0 o1' o2 o3 hb4 hb3 hb5 hb2 q1 B4 hgs hsz3 hd1 hd2 hacc
      go_upto_block 4 with fail
      obtain ⟨o0, o1', o2, o3⟩ := HARGS.out
      refine graph_b4 (F := F) (f := f) (kd := kd) (ag := ag) (sz := sz) (nW := nW) (cW := cW) (bW := bW) (oW := oW) hn HAB.out HSZ.out.symm hs4 hfl hnW (fieldsP_u64 HFL.out HT.out.range) (fun h => HT.out.const f HFM.out (by rw [← HKD.out]; exact h)) o0 o1' o2 o3 ((HB4.out.cell (p := ⟨p, o + 3, none⟩) (lt_of_cell HC3.out)).trans HC3.out) (fun j hj => (HB4.out.cell (p := ⟨bW, oW + j, none⟩) (lt_of_cell (HWW.out j hj))).trans (HWW.out j hj)) (HO.out.below HB4.out) ?_
      clear o0 o1' o2 o3 HARGS
      rw [← HTOT.out]
      intro v60 v61 v62 v63 v64 v65 v66 v67 v68 v69 v70 v71 v72 v73 v74 v75 v76 v77 v78 v79 v80 v81 v82 v83 v84 v85 v86 v87 v88 v89 v90 v9 v10 wx hwx
      have HWX := toHid hwx
      clear hwx
      go_wp2_with fail
      go_roundg (out.length + 1 - (i + 1))
      case measure => have := HG.out; omega
      case rel => exact ⟨i + 1, _, rfl, by omega, by go_num, rfl, HTS.out, HB4.out.trans (HWX.out.mono HB4.out.size), HE.out⟩
    · have hI : ¬ (i : Int) < (out.length : Int) := by omega
      have hii : i = out.length := by omega
      have HE : Hid (acc = gObjsP F out a0 out.length) := by show _ = _; rw [hacc.out, hii]
      clear hii
      go_wp2_with fail
      have e := HE.out
      subst e
      exact HR.out _ _ _ _ _ _ _ _ _ _ _ _ _ _ _ _ _ _ _ _ _ _ _ _ _ _ _ _ _ _ _ _ _ _ _ _ _ _ _ _ _ _ _ _ _ _ _ _ _ _ _ _ _ _ _ _ _ HB.out
end Go.Proofs.YtnenggkgfhgcnaaGreatDoor

/- IDs in the order of their serials, and their lines: plain laws. -/
namespace Go.Proofs.YtnenggkgfhgcnaaGreatDoor
open Go.RowKit

/-- The next serial: of the first i the least that is above the last one (its place; -1 if there is none). -/
def nxtP (I : List (Int × Int)) (last : Int) : Nat → Int
  | 0 => -1
  | i + 1 => match I[i]? with
    | some x => if x.2 > last ∧ (nxtP I last i < 0 ∨ x.2 < (I.getD (nxtP I last i).toNat (0, 0)).2) then (i : Int) else nxtP I last i
    | none => nxtP I last i
theorem nxtP_spec (I : List (Int × Int)) (last : Int) : ∀ i, i ≤ I.length → (nxtP I last i = -1 ∧ ∀ (j : Nat) x, j < i → I[j]? = some x → x.2 ≤ last) ∨ ∃ (n : Nat) (y : Int × Int), nxtP I last i = (n : Int) ∧ n < i ∧ I[n]? = some y ∧ last < y.2 ∧ ∀ (j : Nat) x, j < i → I[j]? = some x → last < x.2 → y.2 ≤ x.2
  | 0, _ => Or.inl ⟨rfl, fun j x h => absurd h (Nat.not_lt_zero _)⟩
  | i + 1, hi => by
    obtain ⟨x, hx⟩ : ∃ x, I[i]? = some x := ⟨_, List.getElem?_eq_getElem (by omega)⟩
    have e : nxtP I last (i + 1) = if x.2 > last ∧ (nxtP I last i < 0 ∨ x.2 < (I.getD (nxtP I last i).toNat (0, 0)).2) then (i : Int) else nxtP I last i := by
      conv => lhs; unfold nxtP
      rw [hx]
    rcases nxtP_spec I last i (by omega) with ⟨h1, h2⟩ | ⟨n, y, h1, h2, h3, h4, h5⟩
    · by_cases c : x.2 > last
      · rw [e, if_pos ⟨c, Or.inl (by omega)⟩]
        refine Or.inr ⟨i, x, rfl, Nat.lt_succ_self _, hx, c, fun j z hj hz hl => ?_⟩
        by_cases hji : j = i
        · subst hji
          rw [hx] at hz
          cases hz
          omega
        · have := h2 j z (by omega) hz
          omega
      · rw [e, if_neg (fun h => c h.1)]
        refine Or.inl ⟨h1, fun j z hj hz => ?_⟩
        by_cases hji : j = i
        · subst hji
          rw [hx] at hz
          cases hz
          omega
        · exact h2 j z (by omega) hz
    · have hg : (I.getD (nxtP I last i).toNat (0, 0)) = y := by
        rw [h1, Int.toNat_natCast, List.getD_eq_getElem?_getD, h3]
        rfl
      rw [hg] at e
      by_cases c : x.2 > last ∧ x.2 < y.2
      · rw [e, if_pos ⟨c.1, Or.inr c.2⟩]
        refine Or.inr ⟨i, x, rfl, Nat.lt_succ_self _, hx, c.1, fun j z hj hz hl => ?_⟩
        by_cases hji : j = i
        · subst hji
          rw [hx] at hz
          cases hz
          omega
        · have := h5 j z (by omega) hz hl
          omega
      · rw [e, if_neg (fun h => c ⟨h.1, h.2.resolve_left (by omega)⟩)]
        refine Or.inr ⟨n, y, h1, by omega, h3, h4, fun j z hj hz hl => ?_⟩
        by_cases hji : j = i
        · subst hji
          rw [hx] at hz
          cases hz
          omega
        · exact h5 j z (by omega) hz hl
/-- IDs in the order of their serials. -/
def ordI (I : List (Int × Int)) : List (Int × Int) := I.mergeSort (fun x y => decide (x.2 ≤ y.2))
structure IdsOK (I : List (Int × Int)) : Prop where
  pos : ∀ x ∈ I, 1 ≤ x.2
  nodup : I.Pairwise (fun x y => x.2 ≠ y.2)
theorem ordI_perm (I : List (Int × Int)) : (ordI I).Perm I := List.mergeSort_perm _ _
theorem ordI_le (I : List (Int × Int)) : (ordI I).Pairwise (fun x y => x.2 ≤ y.2) := by
  have h := List.pairwise_mergeSort (le := fun x y : Int × Int => decide (x.2 ≤ y.2)) (fun a b c h1 h2 => by simp at *; omega) (fun a b => by simp; omega) I
  exact h.imp (fun h => of_decide_eq_true h)
theorem ordI_lt {I : List (Int × Int)} (h : IdsOK I) : (ordI I).Pairwise (fun x y => x.2 < y.2) := by
  have h1 := ordI_le I
  have h2 : (ordI I).Pairwise (fun x y => x.2 ≠ y.2) := h.nodup.perm (ordI_perm I).symm (fun h => h.symm)
  exact (h1.and h2).imp (fun ⟨a, b⟩ => by omega)
theorem ordI_len (I : List (Int × Int)) : (ordI I).length = I.length := (ordI_perm I).length_eq
/-- The last serial, behind k of them. -/
def lastP (L : List (Int × Int)) : Nat → Int
  | 0 => 0
  | k + 1 => (L.getD k (0, 0)).2
theorem lt_at {L : List (Int × Int)} (h : L.Pairwise (fun x y => x.2 < y.2)) {i j : Nat} {x y : Int × Int} (hi : L[i]? = some x) (hj : L[j]? = some y) (hij : i < j) : x.2 < y.2 := by
  obtain ⟨h1, rfl⟩ := List.getElem?_eq_some_iff.1 hi
  obtain ⟨h2, rfl⟩ := List.getElem?_eq_some_iff.1 hj
  exact List.pairwise_iff_getElem.1 h i j h1 h2 hij
theorem last_next {L : List (Int × Int)} {k : Nat} {x : Int × Int} (h : L[k]? = some x) : lastP L (k + 1) = x.2 := by
  show (L.getD k (0, 0)).2 = _
  rw [List.getD_eq_getElem?_getD, h]
  rfl
/-- What lies above the last serial, behind k of them. -/
theorem above_last {L : List (Int × Int)} (h : L.Pairwise (fun x y => x.2 < y.2)) (hp : ∀ x ∈ L, 1 ≤ x.2) {k j : Nat} (hk : k ≤ L.length) {x : Int × Int} (hj : L[j]? = some x) : lastP L k < x.2 ↔ k ≤ j := by
  have hjl : j < L.length := (List.getElem?_eq_some_iff.1 hj).1
  cases k with
  | zero =>
    have := hp x (List.mem_of_getElem? hj)
    show (0 : Int) < _ ↔ _
    omega
  | succ k =>
    obtain ⟨y, hy⟩ : ∃ y, L[k]? = some y := ⟨_, List.getElem?_eq_getElem (by omega)⟩
    rw [last_next hy]
    by_cases c : k < j
    · have := lt_at h hy hj c
      omega
    · by_cases e : k = j
      · subst e
        rw [hy] at hj
        cases hj
        omega
      · have := lt_at h hj hy (by omega)
        omega
theorem next_at {I : List (Int × Int)} (h : IdsOK I) {k : Nat} {x : Int × Int} (hk : (ordI I)[k]? = some x) : ∃ n : Nat, nxtP I (lastP (ordI I) k) I.length = (n : Int) ∧ I[n]? = some x := by
  have hL := ordI_lt h
  have hp : ∀ y ∈ ordI I, 1 ≤ y.2 := fun y hy => h.pos y ((ordI_perm I).mem_iff.1 hy)
  have hkl : k < (ordI I).length := (List.getElem?_eq_some_iff.1 hk).1
  have hx : x ∈ I := (ordI_perm I).mem_iff.1 (List.mem_of_getElem? hk)
  obtain ⟨i, hi⟩ := List.getElem?_of_mem hx
  have hil : i < I.length := (List.getElem?_eq_some_iff.1 hi).1
  have ha := (above_last hL hp (Nat.le_of_lt hkl) hk).2 (Nat.le_refl _)
  rcases nxtP_spec I (lastP (ordI I) k) I.length (Nat.le_refl _) with ⟨_, h2⟩ | ⟨n, y, h1, _, h3, h4, h5⟩
  · have := h2 i x hil hi
    omega
  · refine ⟨n, h1, ?_⟩
    rw [h3]
    have hy : y ∈ ordI I := (ordI_perm I).mem_iff.2 (List.mem_of_getElem? h3)
    obtain ⟨j, hj⟩ := List.getElem?_of_mem hy
    have hkj := (above_last hL hp (Nat.le_of_lt hkl) hj).1 h4
    have hle := h5 i x hil hi ha
    by_cases e : k = j
    · subst e
      rw [hk] at hj
      exact hj.symm
    · have := lt_at hL hk hj (by omega)
      omega
theorem next_end {I : List (Int × Int)} (h : IdsOK I) {k : Nat} (hk : k = (ordI I).length) : nxtP I (lastP (ordI I) k) I.length = -1 := by
  have hL := ordI_lt h
  have hp : ∀ y ∈ ordI I, 1 ≤ y.2 := fun y hy => h.pos y ((ordI_perm I).mem_iff.1 hy)
  rcases nxtP_spec I (lastP (ordI I) k) I.length (Nat.le_refl _) with ⟨h1, _⟩ | ⟨n, y, h1, _, h3, h4, h5⟩
  · exact h1
  · have hy : y ∈ ordI I := (ordI_perm I).mem_iff.2 (List.mem_of_getElem? h3)
    obtain ⟨j, hj⟩ := List.getElem?_of_mem hy
    have := (above_last hL hp (Nat.le_of_eq hk) hj).1 h4
    have := (List.getElem?_eq_some_iff.1 hj).1
    omega
/-- Those that are kept, sorted: the same as sorted, then kept. -/
theorem ord_filter {I M : List (Int × Int)} (h : IdsOK I) (p : Int × Int → Bool) (hM : M.Perm (I.filter p)) (hs : M.Pairwise (fun x y => ¬ y.2 < x.2)) : M = (ordI I).filter p := by
  have hp2 : M.Perm ((ordI I).filter p) := hM.trans ((ordI_perm I).filter p).symm
  refine List.Perm.eq_of_pairwise (le := fun x y : Int × Int => x.2 ≤ y.2) (fun a b ha hb h1 h2 => ?_) (hs.imp (fun h => by omega)) ((ordI_le I).filter p) hp2
  have ha' : a ∈ ordI I := (List.mem_filter.1 (hp2.mem_iff.1 ha)).1
  have hb' : b ∈ ordI I := (List.mem_filter.1 hb).1
  obtain ⟨i, hi⟩ := List.getElem?_of_mem ha'
  obtain ⟨j, hj⟩ := List.getElem?_of_mem hb'
  have hL := ordI_lt h
  by_cases e : i = j
  · subst e
    rw [hi] at hj
    cases hj
    rfl
  · rcases Nat.lt_or_gt_of_ne e with c | c
    · have := lt_at hL hi hj c
      omega
    · have := lt_at hL hj hi c
      omega
theorem ids_at_ok {nH : Nat} {hb : Nat → Bool} {l : List (Int × Int)} (h : idsB nH hb l = true) {i : Nat} {x : Int × Int} (hi : l[i]? = some x) : ptrB nH hb x.1 = true ∧ 1 ≤ x.2 ∧ ((l.take (i + 1)).map (·.2)).count x.2 ≤ 1 := by
  have hl : i < l.length := (List.getElem?_eq_some_iff.1 hi).1
  have h1 := List.all_eq_true.1 h i (List.mem_range.2 hl)
  unfold idB at h1
  rw [hi] at h1
  simp only [Bool.and_eq_true, decide_eq_true_eq] at h1
  exact ⟨h1.1, h1.2.1, h1.2.2.2⟩
theorem ids_ok {nH : Nat} {hb : Nat → Bool} {l : List (Int × Int)} (h : idsB nH hb l = true) : IdsOK l where
  pos := fun x hx => by
    obtain ⟨i, hi⟩ := List.getElem?_of_mem hx
    exact (ids_at_ok h hi).2.1
  nodup := by
    rw [List.pairwise_iff_getElem]
    intro i j hi hj hij he
    have h3 := (ids_at_ok h (List.getElem?_eq_getElem hj)).2.2
    rw [List.take_add_one, List.getElem?_eq_getElem hj, List.map_append, List.count_append] at h3
    have h4 : l[j].2 ∈ (l.take j).map (·.2) := by
      rw [← he]
      exact List.mem_map.2 ⟨l[i], List.mem_of_getElem? (i := i) (by rw [List.getElem?_take, if_pos hij, List.getElem?_eq_getElem hi]), rfl⟩
    have h5 := List.count_pos_iff.2 h4
    have h6 : (List.map (fun x : Int × Int => x.2) (some l[j]).toList).count l[j].2 = 1 := by simp
    omega
theorem ids_ptr {nH : Nat} {hb : Nat → Bool} {l : List (Int × Int)} (h : idsB nH hb l = true) : ∀ x ∈ l, ptrB nH hb x.1 = true := fun x hx => by
  obtain ⟨i, hi⟩ := List.getElem?_of_mem hx
  exact (ids_at_ok h hi).1
theorem nxtP_next {I : List (Int × Int)} {last : Int} {k : Nat} {x : Int × Int} (h : I[k]? = some x) : nxtP I last (k + 1) = if x.2 > last ∧ (nxtP I last k < 0 ∨ x.2 < (I.getD (nxtP I last k).toNat (0, 0)).2) then (k : Int) else nxtP I last k := by
  conv => lhs; unfold nxtP
  rw [h]
/-- An ID's line, if its object was come to. -/
def gId (out : List Nat) (acc : ByteArray) (x : Int × Int) : ByteArray := if objI out (ptI x.1) < 0 then acc else ((((acc ++ ⟨#[105, 100, 32]⟩) ++ decB x.2) ++ ⟨#[32, 64]⟩) ++ decB (objI out (ptI x.1))) ++ ⟨#[10]⟩
def gIds (out : List Nat) (acc : ByteArray) (l : List (Int × Int)) : ByteArray := l.foldl (gId out) acc
theorem gIds_take {out : List Nat} {acc : ByteArray} {l : List (Int × Int)} {k : Nat} {x : Int × Int} (h : l[k]? = some x) : gIds out acc (l.take (k + 1)) = gId out (gIds out acc (l.take k)) x := by
  unfold gIds
  rw [List.take_add_one, h, List.foldl_append]
  rfl
theorem ord64 {I : List (Int × Int)} (h : Ids64 I) : Ids64 (ordI I) := fun x hx => h x ((ordI_perm I).mem_iff.1 hx)
end Go.Proofs.YtnenggkgfhgcnaaGreatDoor
