/- The document's memory: lines of IDs (GraphOf's last loop), by contracts. -/
import Derived.Test.YtnenggkgfhgcnaaGreatDoorJnK
import Derived.Deep.CutBlock
namespace Go.Proofs.YtnenggkgfhgcnaaGreatDoor
open Go.RowKit

set_option maxRecDepth 100000 in
set_option maxHeartbeats 2000000 in
theorem graph_b10 {p o cI : Nat} {aI : Option Addr} {I : List (Int × Int)} {last : Int} {wr : World} {u1 u2 u3 u4 u5 u6 u7 u8 u9 u10 u11 u12 u16 u17 u18 u19 u20 u21 u22 u23 u24 u25 u26 u27 u28 u29 u30 u31 u32 u33 u34 u35 u36 u37 u38 u39 u40 u41 u42 u43 u44 u45 u46 u47 u48 u49 u50 u51 u52 u53 u54 u55 u56 u57 u58 u59 u60 u61 u62 u63 u64 u65 u66 u67 u68 u69 u70 u71 u72 u73 u74 u75 u76 u77 u78 u79 u80 u81 u82 u83 u84 u85 u86 u87 u88 u89 u90 u91 u92 u93 u94 u95 u96 u97 u98 u99 u100 u101 u102 u103 u104 u105 u106 u107 u108 u109 u110 u111 u112 u113 u114 u115 u116 u117 u118 u119 u120 u121 u122 u123 u124 u125 u126 u127 u128 u129 u130 u131 u132 u133 u134 u135 u136 u137 u138 u139 u140 u141 u142 u143 u144 u145 u146 u147 u148 u149 u150 u151 u152 u153 u154 u155 u156 u157 u158 u159 u160 u161 u162 u163 u164 u165 u166 u167 u168 u169 u170 u171 u172 u173 u174 u175 u176 u177 u178 u179 u180 u181 u182 u183 u184 u185 u186 u187 u188 u189 u190 u191 u192 : Value} {K : Act → World → Prop} {Q : Exit → Act → World → Prop}
    (h64 : Ids64 I) (hl : I.length ≤ 300000) (hp : wr.cell? ⟨p, o + 9, none⟩ = some (.slice aI I.length cI)) (hrow : RowV wr (.slice aI I.length cI) I.length (idsV I))
    (hrest : ∀ (v115 v116 v117 v118 v119 v120 v121 v122 v123 v124 v125 v126 v127 v128 v129 v130 v131 v132 v133 v134 v135 v136 v137 v138 v139 v140 v141 v142 v143 v144 v145 v146 v147 v148 v149 v150 v151 v152 v153 v154 v155 v156 v157 v15 : Value) (wx : World), (Below wr.heap.size wr wx) → K ⟨#[.pointer (some ⟨p, o, none⟩), u1, u2, u3, u4, u5, u6, u7, u8, u9, u10, u11, u12, .int .i64 last, .int .i64 (nxtP I last I.length), v15, u16, u17, u18, u19, u20, u21, u22, u23, u24, u25, u26, u27, u28, u29, u30, u31, u32, u33, u34, u35, u36, u37, u38, u39, u40, u41, u42, u43, u44, u45, u46, u47, u48, u49, u50, u51, u52, u53, u54, u55, u56, u57, u58, u59, u60, u61, u62, u63, u64, u65, u66, u67, u68, u69, u70, u71, u72, u73, u74, u75, u76, u77, u78, u79, u80, u81, u82, u83, u84, u85, u86, u87, u88, u89, u90, u91, u92, u93, u94, u95, u96, u97, u98, u99, u100, u101, u102, u103, u104, u105, u106, u107, u108, u109, u110, u111, u112, u113, u114, v115, v116, v117, v118, v119, v120, v121, v122, v123, v124, v125, v126, v127, v128, v129, v130, v131, v132, v133, v134, v135, v136, v137, v138, v139, v140, v141, v142, v143, v144, v145, v146, v147, v148, v149, v150, v151, v152, v153, v154, v155, v156, v157, u158, u159, u160, u161, u162, u163, u164, u165, u166, u167, u168, u169, u170, u171, u172, u173, u174, u175, u176, u177, u178, u179, u180, u181, u182, u183, u184, u185, u186, u187, u188, u189, u190, u191, u192], []⟩ wx) :
    Code.wp Tryz.prog (gBlock 10) (Exit.then K Q) ⟨#[.pointer (some ⟨p, o, none⟩), u1, u2, u3, u4, u5, u6, u7, u8, u9, u10, u11, u12, .int .i64 last, .int .i64 (-1), .int .i64 0, u16, u17, u18, u19, u20, u21, u22, u23, u24, u25, u26, u27, u28, u29, u30, u31, u32, u33, u34, u35, u36, u37, u38, u39, u40, u41, u42, u43, u44, u45, u46, u47, u48, u49, u50, u51, u52, u53, u54, u55, u56, u57, u58, u59, u60, u61, u62, u63, u64, u65, u66, u67, u68, u69, u70, u71, u72, u73, u74, u75, u76, u77, u78, u79, u80, u81, u82, u83, u84, u85, u86, u87, u88, u89, u90, u91, u92, u93, u94, u95, u96, u97, u98, u99, u100, u101, u102, u103, u104, u105, u106, u107, u108, u109, u110, u111, u112, u113, u114, u115, u116, u117, u118, u119, u120, u121, u122, u123, u124, u125, u126, u127, u128, u129, u130, u131, u132, u133, u134, u135, u136, u137, u138, u139, u140, u141, u142, u143, u144, u145, u146, u147, u148, u149, u150, u151, u152, u153, u154, u155, u156, u157, u158, u159, u160, u161, u162, u163, u164, u165, u166, u167, u168, u169, u170, u171, u172, u173, u174, u175, u176, u177, u178, u179, u180, u181, u182, u183, u184, u185, u186, u187, u188, u189, u190, u191, u192], []⟩ wr := by
  have HR := toHid hrest
  have H6 := toHid h64
  have HW := toHid hrow
  obtain ⟨w, hw⟩ : ∃ w, w = wr := ⟨_, rfl⟩
  subst hw
  clear hrest h64 hrow
  conv => arg 2; whnf
  go_wp2_with fail
  go_loopg [14, 15] (I.length + 1) (fun gk vn vi wr => ∃ (k : Nat) (n : Int), gk = I.length + 1 - k ∧ k ≤ I.length ∧ vi = .int .i64 (k : Int) ∧ vn = .int .i64 n ∧ Below w.heap.size w wr ∧ Hid (n = nxtP I last k))
  case atStart => exact ⟨0, -1, rfl, Nat.zero_le _, rfl, rfl, Below.refl _ _, rfl⟩
  case round =>
    obtain ⟨k, n, hgk, hk, rfl, rfl, hb, hnx⟩ := hrel
    have HG := toHid hgk
    have hk0 : (0 : Int) ≤ (k : Int) := by omega
    have hp1 := (hb.cell (p := ⟨p, o + 9, none⟩) (lt_of_cell hp)).trans hp
    have HB := toHid hb
    clear hgk hb
    by_cases hlt : k < I.length
    · have hI : (k : Int) < (I.length : Int) := by omega
      obtain ⟨⟨xa, xs⟩, hx⟩ : ∃ x, I[k]? = some x := ⟨_, List.getElem?_eq_getElem hlt⟩
      obtain ⟨_, _, e, _, f1⟩ := HW.out
      cases e
      obtain ⟨p1, o1, rfl, l1, g1⟩ := f1 (by omega)
      have r1 : wr.cell? ⟨p1, o1 + k * 2 + 1, none⟩ = some (.int .i64 xs) := (HB.out.cell (p := ⟨p1, o1 + k * 2 + 1, none⟩) l1).trans (g1 (k * 2 + 1) _ (ids_at hx).2)
      have HX : Hid (nxtP I last (k + 1) = if xs > last ∧ (nxtP I last k < 0 ∨ xs < (I.getD (nxtP I last k).toNat (0, 0)).2) then (k : Int) else nxtP I last k) := nxtP_next hx
      have hs := nxtP_spec I last k hk
      by_cases c1 : last < xs
      · rcases hs with ⟨h1, _⟩ | ⟨j, ⟨ya, ys⟩, h1, h2, h3, h4, _⟩
        · have hn1 : n = -1 := by rw [hnx.out, h1]
          subst hn1
          have HE : Hid ((k : Int) = nxtP I last (k + 1)) := by show _ = _; rw [HX.out, if_pos ⟨c1, Or.inl (by rw [h1]; decide)⟩]
          clear f1 g1 hx h1 hnx HX
          go_wp2_with fail
          go_quiet (fail)
          go_wp2_with fail
          go_roundg (I.length + 1 - (k + 1))
          case measure => have := HG.out; omega
          case rel => exact ⟨k + 1, _, rfl, by omega, by go_num, rfl, below_drewN HB.out, HE.out⟩
        · have hn1 : n = (j : Int) := by rw [hnx.out, h1]
          subst hn1
          have hjI : (j : Int) < (I.length : Int) := by omega
          have hj0 : (0 : Int) ≤ (j : Int) := by omega
          have hjn : ¬ (j : Int) < 0 := by omega
          have r2 : wr.cell? ⟨p1, o1 + j * 2 + 1, none⟩ = some (.int .i64 ys) := (HB.out.cell (p := ⟨p1, o1 + j * 2 + 1, none⟩) l1).trans (g1 (j * 2 + 1) _ (ids_at h3).2)
          have hgd : (I.getD (nxtP I last k).toNat (0, 0)).2 = ys := by rw [h1, Int.toNat_natCast, List.getD_eq_getElem?_getD, h3]; rfl
          by_cases c2 : xs < ys
          · have HE : Hid ((k : Int) = nxtP I last (k + 1)) := by show _ = _; rw [HX.out, if_pos ⟨c1, Or.inr (by rw [hgd]; exact c2)⟩]
            clear f1 g1 hx h1 hnx HX hgd h3 h2 h4
            go_wp2_with fail
            go_quiet (fail)
            go_wp2_with fail
            go_roundg (I.length + 1 - (k + 1))
            case measure => have := HG.out; omega
            case rel => exact ⟨k + 1, _, rfl, by omega, by go_num, rfl, below_drewN HB.out, HE.out⟩
          · have HE : Hid ((j : Int) = nxtP I last (k + 1)) := by show _ = _; rw [HX.out, if_neg (fun h => h.2.elim (fun h => by rw [h1] at h; omega) (fun h => c2 (by rw [hgd] at h; exact h))), h1]
            clear f1 g1 hx h1 hnx HX hgd h3 h2 h4
            go_wp2_with fail
            go_quiet (fail)
            go_wp2_with fail
            go_roundg (I.length + 1 - (k + 1))
            case measure => have := HG.out; omega
            case rel => exact ⟨k + 1, _, rfl, by omega, by go_num, rfl, below_drewN HB.out, HE.out⟩
      · have HE : Hid (n = nxtP I last (k + 1)) := by show _ = _; rw [HX.out, if_neg (fun h => c1 h.1), hnx.out]
        have c1b : (decide (last < xs)) = false := decide_eq_false c1
        clear f1 g1 hx hnx HX hs
        go_wp2_with fail
        go_quiet (fail)
        go_wp2_with fail
        go_roundg (I.length + 1 - (k + 1))
        case measure => have := HG.out; omega
        case rel => exact ⟨k + 1, _, rfl, by omega, by go_num, rfl, below_drewN HB.out, HE.out⟩
    · have hI : ¬ (k : Int) < (I.length : Int) := by omega
      have hkk : k = I.length := by omega
      have HE : Hid (n = nxtP I last I.length) := by show _ = _; rw [hnx.out, hkk]
      clear hkk
      go_wp2_with fail
      have e := HE.out
      subst e
      exact HR.out _ _ _ _ _ _ _ _ _ _ _ _ _ _ _ _ _ _ _ _ _ _ _ _ _ _ _ _ _ _ _ _ _ _ _ _ _ _ _ _ _ _ _ _ _ HB.out
set_option maxRecDepth 100000 in
set_option maxHeartbeats 2000000 in
theorem graph_b8 {p o cI oc : Nat} {aI oo : Option Addr} {F : Nat → Int} {out : List Nat} {I : List (Int × Int)} {a0 m0 : ByteArray} {wr : World} {u1 u2 u3 u6 u7 u8 u9 u10 u12 u14 u15 u16 u17 u18 u19 u20 u21 u22 u23 u24 u25 u26 u27 u28 u29 u30 u31 u32 u33 u34 u35 u36 u37 u38 u39 u40 u41 u42 u43 u44 u45 u46 u47 u48 u49 u50 u51 u52 u53 u54 u55 u56 u57 u58 u59 u60 u61 u62 u63 u64 u65 u66 u67 u68 u69 u70 u71 u72 u73 u74 u75 u76 u77 u78 u79 u80 u81 u82 u83 u84 u85 u86 u87 u88 u89 u90 u91 u92 u93 u94 u95 u96 u97 u98 u99 u100 u101 u102 u103 u104 u105 u106 u107 u108 u109 u110 u111 u112 u113 u114 u115 u116 u117 u118 u119 u120 u121 u122 u123 u124 u125 u126 u127 u128 u129 u130 u131 u132 u133 u134 u135 u136 u137 u138 u139 u140 u141 u142 u143 u144 u145 u146 u147 u148 u149 u150 u151 u152 u153 u154 u155 u156 u157 u158 u159 u160 u161 u162 u163 u164 u165 u166 u167 u168 u169 u170 u171 u172 u173 u174 u175 u176 u177 u178 u179 u180 u181 u182 u183 u184 u185 u186 u187 u188 u189 u190 u191 u192 : Value} {Q : Exit → Act → World → Prop}
    (hn : out.length ≤ 300000) (h64 : Ids64 I) (hok : IdsOK I) (hl : I.length ≤ 300000) (hm : m0.size ≤ 10000000000000) (hp : wr.cell? ⟨p, o + 9, none⟩ = some (.slice aI I.length cI)) (hrow : RowV wr (.slice aI I.length cI) I.length (idsV I)) (hout : RowV wr (.slice oo out.length oc) out.length (objsV F out))
    (hret : ∀ (v115 v116 v117 v118 v119 v120 v121 v122 v123 v124 v125 v126 v127 v128 v129 v130 v131 v132 v133 v134 v135 v136 v137 v138 v139 v140 v141 v142 v143 v144 v145 v146 v147 v148 v149 v150 v151 v152 v153 v154 v155 v156 v157 v158 v159 v160 v161 v162 v163 v164 v165 v166 v167 v168 v169 v170 v171 v172 v173 v174 v175 v176 v177 v178 v179 v180 v181 v182 v183 v184 v185 v186 v187 v188 v189 v190 v191 v192 v11 v13 v14 v15 v16 : Value) (wx : World), (Below wr.heap.size wr wx) → Q .ret ⟨#[.pointer (some ⟨p, o, none⟩), u1, .string a0, .string (gIds out m0 (ordI I)), .slice oo out.length oc, .string a0, u6, u7, u8, u9, u10, v11, u12, v13, v14, v15, v16, u17, u18, u19, u20, u21, u22, u23, u24, u25, u26, u27, u28, u29, u30, u31, u32, u33, u34, u35, u36, u37, u38, u39, u40, u41, u42, u43, u44, u45, u46, u47, u48, u49, u50, u51, u52, u53, u54, u55, u56, u57, u58, u59, u60, u61, u62, u63, u64, u65, u66, u67, u68, u69, u70, u71, u72, u73, u74, u75, u76, u77, u78, u79, u80, u81, u82, u83, u84, u85, u86, u87, u88, u89, u90, u91, u92, u93, u94, u95, u96, u97, u98, u99, u100, u101, u102, u103, u104, u105, u106, u107, u108, u109, u110, u111, u112, u113, u114, v115, v116, v117, v118, v119, v120, v121, v122, v123, v124, v125, v126, v127, v128, v129, v130, v131, v132, v133, v134, v135, v136, v137, v138, v139, v140, v141, v142, v143, v144, v145, v146, v147, v148, v149, v150, v151, v152, v153, v154, v155, v156, v157, v158, v159, v160, v161, v162, v163, v164, v165, v166, v167, v168, v169, v170, v171, v172, v173, v174, v175, v176, v177, v178, v179, v180, v181, v182, v183, v184, v185, v186, v187, v188, v189, v190, v191, v192], []⟩ wx) :
    Code.wp Tryz.prog (gBlock 8) Q ⟨#[.pointer (some ⟨p, o, none⟩), u1, u2, u3, .slice oo out.length oc, .string a0, u6, u7, u8, u9, u10, .string m0, u12, .int .i64 0, u14, u15, u16, u17, u18, u19, u20, u21, u22, u23, u24, u25, u26, u27, u28, u29, u30, u31, u32, u33, u34, u35, u36, u37, u38, u39, u40, u41, u42, u43, u44, u45, u46, u47, u48, u49, u50, u51, u52, u53, u54, u55, u56, u57, u58, u59, u60, u61, u62, u63, u64, u65, u66, u67, u68, u69, u70, u71, u72, u73, u74, u75, u76, u77, u78, u79, u80, u81, u82, u83, u84, u85, u86, u87, u88, u89, u90, u91, u92, u93, u94, u95, u96, u97, u98, u99, u100, u101, u102, u103, u104, u105, u106, u107, u108, u109, u110, u111, u112, u113, u114, u115, u116, u117, u118, u119, u120, u121, u122, u123, u124, u125, u126, u127, u128, u129, u130, u131, u132, u133, u134, u135, u136, u137, u138, u139, u140, u141, u142, u143, u144, u145, u146, u147, u148, u149, u150, u151, u152, u153, u154, u155, u156, u157, u158, u159, u160, u161, u162, u163, u164, u165, u166, u167, u168, u169, u170, u171, u172, u173, u174, u175, u176, u177, u178, u179, u180, u181, u182, u183, u184, u185, u186, u187, u188, u189, u190, u191, u192], []⟩ wr := by
  have HRT := toHid hret
  have H6 := toHid h64
  have HK := toHid hok
  have HW := toHid hrow
  have HO := toHid hout
  obtain ⟨w, hw⟩ : ∃ w, w = wr := ⟨_, rfl⟩
  subst hw
  have hll := ordI_len I
  have HL := toHid hll
  clear hret h64 hok hrow hout hll
  conv => arg 2; whnf
  go_wp2_with fail
  go_loopg [11, 13] (I.length + 1) (fun gk va vl wr => ∃ (k : Nat) (acc : ByteArray) (la : Int), gk = I.length + 1 - k ∧ k ≤ I.length ∧ vl = .int .i64 la ∧ va = .string acc ∧ acc.size ≤ 10000000000000 + k * 80 ∧ Below w.heap.size w wr ∧ Hid (la = lastP (ordI I) k) ∧ Hid (acc = gIds out m0 ((ordI I).take k)))
  case atStart => exact ⟨0, m0, 0, rfl, Nat.zero_le _, rfl, rfl, by omega, Below.refl _ _, rfl, rfl⟩
  case round =>
    obtain ⟨k, acc, la, hgk, hk, rfl, rfl, hsz, hb, hla, hacc⟩ := hrel
    have HG := toHid hgk
    have HB := toHid hb
    have HP1 := toHid ((hb.cell (p := ⟨p, o + 9, none⟩) (lt_of_cell hp)).trans hp)
    clear hgk hb
    go_upto_block 10 with fail
    refine graph_b10 H6.out hl HP1.out (HW.out.below HB.out) ?_
    intro v115 v116 v117 v118 v119 v120 v121 v122 v123 v124 v125 v126 v127 v128 v129 v130 v131 v132 v133 v134 v135 v136 v137 v138 v139 v140 v141 v142 v143 v144 v145 v146 v147 v148 v149 v150 v151 v152 v153 v154 v155 v156 v157 v15 wx hwx
    have hb2 := HB.out.trans (hwx.mono HB.out.size)
    have hp2 := (hwx.cell (p := ⟨p, o + 9, none⟩) (lt_of_cell HP1.out)).trans HP1.out
    have HB2 := toHid hb2
    clear hwx hb2
    by_cases hlt : k < I.length
    · obtain ⟨⟨xa, xs⟩, hx⟩ : ∃ x, (ordI I)[k]? = some x := ⟨_, List.getElem?_eq_getElem (by rw [HL.out]; exact hlt)⟩
      obtain ⟨n, hn1, hn2⟩ := next_at HK.out hx
      rw [← hla.out] at hn1
      obtain ⟨_, _, e, _, f1⟩ := HW.out
      cases e
      obtain ⟨p1, o1, rfl, l1, g1⟩ := f1 (by omega)
      have hnl : n < I.length := (List.getElem?_eq_some_iff.1 hn2).1
      have hnI : (n : Int) < (I.length : Int) := by omega
      have hn0 : (0 : Int) ≤ (n : Int) := by omega
      have hnn : ¬ (n : Int) < 0 := by omega
      have r1 : wx.cell? ⟨p1, o1 + n * 2, none⟩ = some (.int .u64 xa) := (HB2.out.cell (p := ⟨p1, o1 + n * 2, none⟩) l1).trans (g1 (n * 2) _ (ids_at hn2).1)
      have r2 : wx.cell? ⟨p1, o1 + n * 2 + 1, none⟩ = some (.int .i64 xs) := (HB2.out.cell (p := ⟨p1, o1 + n * 2 + 1, none⟩) l1).trans (g1 (n * 2 + 1) _ (ids_at hn2).2)
      have hx64 := H6.out _ (List.mem_of_getElem? hn2)
      simp only at hx64
      have kp := fun W => points_any xa hx64.1.1 hx64.1.2 W
      have ko := fun W hW => objectAt_any F out oo oc (ptI xa) hn W (HO.out.below hW)
      have hbd := objI_bound (vs := out) (x := ptI xa) hn
      have hla2 : Hid (xs = lastP (ordI I) (k + 1)) := by show _ = _; rw [last_next hx]
      have HA : Hid (gIds out m0 ((ordI I).take (k + 1)) = gId out acc (xa, xs)) := by show _ = _; rw [gIds_take hx, ← hacc.out]
      have kd1 : Hid (∀ W, Calls Tryz.prog 35 #[.int .i64 xs] W fun ev w' => ev = .returned (.string (decB xs)) ∧ Below W.heap.size W w') := fun W => decimal_any xs (by omega) (by omega) W
      have kd2 : Hid (∀ W, Calls Tryz.prog 35 #[.int .i64 (objI out (ptI xa))] W fun ev w' => ev = .returned (.string (decB (objI out (ptI xa)))) ∧ Below W.heap.size W w') := fun W => decimal_any _ (by omega) (by omega) W
      have hd1 := decB_size xs (by omega) (by omega)
      have hd2 := decB_size (objI out (ptI xa)) (by omega) (by omega)
      have HKO := toHid ko
      have HKP := toHid kp
      unfold gId at HA
      simp only at HA
      generalize objI out (ptI xa) = ko' at *
      generalize ptI xa = pt at *
      generalize decB ko' = t2 at *
      obtain ⟨t1, ht1⟩ : ∃ t1, t1 = decB xs := ⟨_, rfl⟩
      rw [← ht1] at hd1 kd1 HA
      rw [hn1]
      clear f1 g1 hx hn1 hn2 hla hacc ko kp ht1 hx64 HO
      by_cases ck : ko' < 0
      · have ck0 : ¬ (0 : Int) ≤ ko' := by omega
        have ckg : (decide (ko' ≥ 0)) = false := decide_eq_false (by omega)
        have HE : Hid (acc = gIds out m0 ((ordI I).take (k + 1))) := by show _ = _; rw [HA.out, if_pos ck]
        clear HA
        go_wp2_with fail
        refine (HKP.out _).mono ?_
        rintro ev w3 ⟨rfl, hq⟩
        rw [hq]
        clear hq w3
        go_wp2_with fail
        refine (HKO.out _ HB2.out).mono ?_
        rintro ev w3 ⟨rfl, hq⟩
        rw [hq]
        clear hq w3
        go_wp2_with fail
        go_roundg (I.length + 1 - (k + 1))
        case measure => have := HG.out; omega
        case rel => exact ⟨k + 1, _, _, rfl, by omega, rfl, rfl, by omega, HB2.out, hla2, HE.out⟩
      · have ck0 : (0 : Int) ≤ ko' := by omega
        have a1 := fun wx => run_string_add_sum (P := Tryz.prog) (w := wx) acc ⟨#[105, 100, 32]⟩ (by show acc.size + 3 ≤ _; omega)
        have hs1 : (acc ++ ⟨#[105, 100, 32]⟩).size = acc.size + 3 := by rw [ByteArray.size_append]; rfl
        have a2 := fun wx => run_string_add_sum (P := Tryz.prog) (w := wx) (acc ++ ⟨#[105, 100, 32]⟩) t1 (by rw [hs1]; omega)
        have hs2 : ((acc ++ ⟨#[105, 100, 32]⟩) ++ t1).size = acc.size + 3 + t1.size := by rw [ByteArray.size_append, hs1]
        have a3 := fun wx => run_string_add_sum (P := Tryz.prog) (w := wx) ((acc ++ ⟨#[105, 100, 32]⟩) ++ t1) ⟨#[32, 64]⟩ (by rw [hs2]; show _ + 2 ≤ _; omega)
        have hs3 : (((acc ++ ⟨#[105, 100, 32]⟩) ++ t1) ++ ⟨#[32, 64]⟩).size = acc.size + 3 + t1.size + 2 := by rw [ByteArray.size_append, hs2]; rfl
        have a4 := fun wx => run_string_add_sum (P := Tryz.prog) (w := wx) (((acc ++ ⟨#[105, 100, 32]⟩) ++ t1) ++ ⟨#[32, 64]⟩) t2 (by rw [hs3]; omega)
        have hs4 : ((((acc ++ ⟨#[105, 100, 32]⟩) ++ t1) ++ ⟨#[32, 64]⟩) ++ t2).size = acc.size + 3 + t1.size + 2 + t2.size := by rw [ByteArray.size_append, hs3]
        have a5 := fun wx => run_string_add_sum (P := Tryz.prog) (w := wx) ((((acc ++ ⟨#[105, 100, 32]⟩) ++ t1) ++ ⟨#[32, 64]⟩) ++ t2) ⟨#[10]⟩ (by rw [hs4]; show _ + 1 ≤ _; omega)
        have HS5 : Hid ((((((acc ++ ⟨#[105, 100, 32]⟩) ++ t1) ++ ⟨#[32, 64]⟩) ++ t2) ++ ⟨#[10]⟩).size ≤ 10000000000000 + (k + 1) * 80) := by show _ ≤ _; rw [ByteArray.size_append, hs4]; show acc.size + 3 + t1.size + 2 + t2.size + 1 ≤ _; omega
        have HE : Hid (((((acc ++ ⟨#[105, 100, 32]⟩) ++ t1) ++ ⟨#[32, 64]⟩) ++ t2) ++ ⟨#[10]⟩ = gIds out m0 ((ordI I).take (k + 1))) := by show _ = _; rw [HA.out, if_neg ck]
        clear HA hs1 hs2 hs3 hs4
        go_wp2_with fail
        refine (HKP.out _).mono ?_
        rintro ev w3 ⟨rfl, hq⟩
        rw [hq]
        clear hq w3
        go_wp2_with fail
        refine (HKO.out _ HB2.out).mono ?_
        rintro ev w3 ⟨rfl, hq⟩
        rw [hq]
        clear hq w3
        go_wp2_with fail
        refine (kd1.out _).mono ?_
        rintro ev w3 ⟨rfl, hb3⟩
        have hb4 := HB2.out.trans (hb3.mono HB2.out.size)
        go_wp2_with fail
        refine (kd2.out _).mono ?_
        rintro ev w4 ⟨rfl, hb5⟩
        have hb6 := hb4.trans (hb5.mono hb4.size)
        go_wp2_with fail
        go_roundg (I.length + 1 - (k + 1))
        case measure => have := HG.out; omega
        case rel => exact ⟨k + 1, _, _, rfl, by omega, rfl, rfl, HS5.out, hb6, hla2, HE.out⟩
    · have hkk : k = (ordI I).length := by rw [HL.out]; omega
      have hne := next_end HK.out hkk
      rw [← hla.out] at hne
      have HE : Hid (acc = gIds out m0 (ordI I)) := by show _ = _; rw [hacc.out, List.take_of_length_le (by omega)]
      rw [hne]
      clear hne hkk hacc hla
      go_wp2_with fail
      have e := HE.out
      subst e
      exact HRT.out _ _ _ _ _ _ _ _ _ _ _ _ _ _ _ _ _ _ _ _ _ _ _ _ _ _ _ _ _ _ _ _ _ _ _ _ _ _ _ _ _ _ _ _ _ _ _ _ _ _ _ _ _ _ _ _ _ _ _ _ _ _ _ _ _ _ _ _ _ _ _ _ _ _ _ _ _ _ _ _ _ _ _ _ HB2.out
end Go.Proofs.YtnenggkgfhgcnaaGreatDoor
