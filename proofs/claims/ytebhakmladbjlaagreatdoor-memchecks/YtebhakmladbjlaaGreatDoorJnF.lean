/- GraphOf of any right memory, by a walk; both texts of a graph are one. -/
import Derived.Test.YtebhakmladbjlaaGreatDoorJnE
import Derived.Test.YtebhakmladbjlaaGreatDoorMemGS
import Derived.Test.YtebhakmladbjlaaGreatDoorMemRD
import Derived.Test.YtebhakmladbjlaaGreatDoorMemRI
import Derived.Test.YtebhakmladbjlaaGreatDoorMemRE
import Derived.Test.YtebhakmladbjlaaGreatDoorMemRH
import Derived.Test.YtebhakmladbjlaaGreatDoorMemJP
import Derived.Test.YtebhakmladbjlaaGreatDoorMemV
import Derived.Test.YtebhakmladbjlaaGreatDoorRows
import Derived.Test.YtebhakmladbjlaaGreatDoorErrCode
import Derived.Stop.LaidTwo
import Derived.LaidHandle
import Derived.Test.YtebhakmladbjlaaGreatDoorWordA
import Derived.Test.YtebhakmladbjlaaGreatDoorMemT
import Derived.Deep.Fields
import Derived.Deep.Strs
import Derived.ChangeSlices
import Derived.ChangeArms
namespace Go.Proofs.YtebhakmladbjlaaGreatDoor
open Go.RowKit

def MD.textA (m : MD) (vs : List Nat) : ByteArray := gObjsP m.F (m.reach vs) (gLines sRoot (m.reach vs) ⟨#[]⟩ m.R) (m.reach vs).length
def MD.textB (m : MD) (vs : List Nat) : ByteArray := gIds (m.reach vs) (gLines sWeak (m.reach vs) ⟨#[]⟩ m.K) (ordI m.I)
theorem gLines_from (s : ByteArray) (out : List Nat) : ∀ (l : List Int) (A : ByteArray), gLines s out A l = A ++ gLines s out ⟨#[]⟩ l
  | [], A => by
    show A = A ++ ⟨#[]⟩
    apply ByteArray.ext
    simp [ByteArray.data_append]
  | x :: l, A => by
    show gLines s out (gLine s out A x) l = A ++ gLines s out (gLine s out ⟨#[]⟩ x) l
    rw [gLines_from s out l (gLine s out A x), gLines_from s out l (gLine s out ⟨#[]⟩ x)]
    have e : gLine s out A x = A ++ gLine s out ⟨#[]⟩ x := by
      unfold gLine
      apply ByteArray.ext
      simp [ByteArray.data_append]
    rw [e, ByteArray.append_assoc]
theorem gIds_from (out : List Nat) : ∀ (l : List (Int × Int)) (A : ByteArray), gIds out A l = A ++ gIds out ⟨#[]⟩ l
  | [], A => by
    show A = A ++ ⟨#[]⟩
    apply ByteArray.ext
    simp [ByteArray.data_append]
  | x :: l, A => by
    show gIds out (gId out A x) l = A ++ gIds out (gId out ⟨#[]⟩ x) l
    rw [gIds_from out l (gId out A x), gIds_from out l (gId out ⟨#[]⟩ x)]
    have e : gId out A x = A ++ gId out ⟨#[]⟩ x := by
      unfold gId
      apply ByteArray.ext
      split <;> simp [ByteArray.data_append]
    rw [e, ByteArray.append_assoc]
theorem gIds_filter (out : List Nat) : ∀ (l : List (Int × Int)) (A : ByteArray), gIds out A (l.filter (hasI out)) = gIds out A l
  | [], A => rfl
  | x :: l, A => by
    by_cases h : hasI out x = true
    · rw [List.filter_cons_of_pos h]
      show gIds out (gId out A x) (l.filter (hasI out)) = gIds out (gId out A x) l
      exact gIds_filter out l _
    · rw [List.filter_cons_of_neg h]
      have h0 : objI out (ptI x.1) < 0 := by
        have := of_decide_eq_false (Bool.not_eq_true _ ▸ h : hasI out x = false)
        omega
      have e : gId out A x = A := by unfold gId; rw [if_pos h0]
      show _ = gIds out (gId out A x) l
      rw [e]
      exact gIds_filter out l _
/-- Both texts of a graph are one. -/
theorem text_same (m : MD) (vs : List Nat) : m.text vs = m.textA vs ++ m.textB vs := by
  unfold MD.text MD.textA MD.textB
  rw [gIds_filter, gIds_from, gLines_from sWeak, gIds_from _ _ (gLines sWeak (m.reach vs) ⟨#[]⟩ m.K), ByteArray.append_assoc]
set_option maxHeartbeats 4000000 in
set_option maxRecDepth 100000 in
theorem graphOf_any (p o : Nat) (m : MD) (vs : List Nat) (hS : m.Shape vs) (h64 : MD64 m) (bR : m.R.length ≤ 300000) (bK : m.K.length ≤ 300000) (bI : m.I.length ≤ 300000) (w : World) (R : RepM p o m w) :
    Calls Tryz.prog 12 #[.pointer (some ⟨p, o, none⟩)] w fun ev w' => ev = .returned (.tuple #[.string (m.textA vs), .string (m.textB vs)]) ∧ Below w.heap.size w w' := by
  have kr := reached_any p o m vs hS h64 bR w R
  have hU := reach_outs hS h64
  have hol := hU.len
  have hfew := hS.few
  unfold MD.textA MD.textB
  obtain ⟨rr, hrr⟩ : ∃ rr, rr = m.reach vs := ⟨_, rfl⟩
  rw [← hrr] at kr hol hU
  rw [← hrr]
  have hrl : rr.length ≤ 300000 := by omega
  have hwl := (shape_len hS).2.1
  have hfine : ∀ f ∈ rr, szN (m.F f) ≤ 4096 := fun f hf => by
    obtain ⟨hfh, hfl⟩ := hS.fine f (hU.sub f hf)
    have hr := md_range h64 f (by omega)
    unfold headB at hfh
    have := of_decide_eq_true hfh
    unfold szN
    omega
  obtain ⟨rR, rK, rI⟩ := hS.rest
  have tR : Tells m.R := ⟨h64.r, fun x hx => (fieldB_tells hwl (rR x hx)).1, bR⟩
  have tK : Tells m.K := ⟨h64.k, fun x hx => (fieldB_tells hwl (rK x hx)).1, bK⟩
  have hT : ObjsT m.F rr m.W.length := ⟨fun f hf => hS.fine f (hU.sub f hf), md_range h64, fun f hf hkd x hx => by
    obtain ⟨j, hj⟩ := List.mem_iff_getElem?.1 hx
    have hl := (List.getElem?_eq_some_iff.1 hj).1
    rw [fieldsP_len] at hl
    rw [fieldsP_at hl] at hj
    cases hj
    exact (fieldB_tells hwl (hS.held (hU.sub f hf) hl hkd)).1⟩
  have hok := ids_ok rI
  obtain ⟨_, vR, vK, vI, vC, hp, M, ⟨aW, cW, rfl, hcW, fW⟩, wR, wK, wI, _⟩ := R
  obtain ⟨bW, oW, rfl, lb, gW⟩ := fW (shape_len hS).1
  obtain ⟨aR, cR, rfl, _, _⟩ := id wR
  obtain ⟨aK, cK, rfl, _, _⟩ := id wK
  obtain ⟨aI, cI, rfl, _, _⟩ := id wI
  have mem1 : ∀ i, i < m.W.length → w.cell? ⟨bW, oW + i, none⟩ = some (.int .u64 (m.F i)) := fun i hi => gW i _ (words_at (by unfold MD.F; rw [List.getD_eq_getElem?_getD, List.getElem?_eq_getElem hi]; rfl))
  have HM3 := toHid M.c3
  have HM7 := toHid M.c7
  have HM8 := toHid M.c8
  have HM9 := toHid M.c9
  have HWR := toHid wR
  have HWK := toHid wK
  have HWI := toHid wI
  have HMEM := toHid mem1
  have HTR := toHid tR
  have HTK := toHid tK
  have HT := toHid hT
  have HOK := toHid hok
  have H6 := toHid h64.i
  have hsR : sRoot.size = 5 := rfl
  have hsW : sWeak.size = 5 := rfl
  have hz0 : (ByteArray.mk #[]).size = 0 := rfl
  have hsz1 := gLines_size hsR hrl m.R ⟨#[]⟩
  have hsz2 := gLines_size hsW hrl m.K ⟨#[]⟩
  have HSZ1 : Hid ((gLines sRoot rr ⟨#[]⟩ m.R).size ≤ 10000000000) := by show _ ≤ _; omega
  have HSZ2 : Hid ((gLines sWeak rr ⟨#[]⟩ m.K).size ≤ 10000000000) := by show _ ≤ _; omega
  clear hS h64 hU hrr M wR wK wI gW fW mem1 tR tK hT hok rR rK rI hfine hsR hsW hz0 hsz1 hsz2 lb hp hcW
  go_enter Tryz.func12, Tryz.ntmps12
  go_wp2_with fail
  refine kr.mono ?_
  rintro ev w1 ⟨oo, oc, rfl, hL, hb1⟩
  have HL := toHid hL
  have HB1 := toHid hb1
  clear kr hL hb1
  go_upto_block 0 with fail
  refine graph_b0 (a0 := ⟨#[]⟩) (F := m.F) hrl HTR.out (by decide) ((HB1.out.cell (p := ⟨p, o + 7, none⟩) (lt_of_cell HM7.out)).trans HM7.out) (RowV.below HWR.out HB1.out) HL.out ?_
  intro v19 v20 v21 v22 v23 v24 v25 v26 v27 v28 v29 v30 v31 v32 v33 v34 v35 v36 v37 v38 v39 v40 v6 wa hba
  have HBa := toHid (HB1.out.trans (hba.mono HB1.out.size))
  have HLa := toHid (RowV.below HL.out hba)
  clear hba
  go_upto_block 2 with fail
  refine graph_b2 (F := m.F) hrl (by have := HSZ1.out; omega) hwl HT.out ((HBa.out.cell (p := ⟨p, o + 3, none⟩) (lt_of_cell HM3.out)).trans HM3.out) (fun i hi => (HBa.out.cell (p := ⟨bW, oW + i, none⟩) (lt_of_cell (HMEM.out i hi))).trans (HMEM.out i hi)) HLa.out ?_
  intro v41 v42 v43 v44 v45 v46 v47 v48 v49 v50 v51 v52 v53 v54 v55 v56 v57 v58 v59 v60 v61 v62 v63 v64 v65 v66 v67 v68 v69 v70 v71 v72 v73 v74 v75 v76 v77 v78 v79 v80 v81 v82 v83 v84 v85 v86 v87 v88 v89 v90 v91 v92 v7 v8 v9 v10 wb hbb
  have HBb := toHid (HBa.out.trans (hbb.mono HBa.out.size))
  have HLb := toHid (RowV.below HLa.out hbb)
  clear hbb
  obtain ⟨tA, htA⟩ : ∃ tA, tA = gObjsP m.F rr (gLines sRoot rr ⟨#[]⟩ m.R) rr.length := ⟨_, rfl⟩
  rw [← htA]
  have HTA := toHid htA
  clear htA
  go_upto_block 6 with fail
  refine graph_b6 (a0 := ⟨#[]⟩) (F := m.F) hrl HTK.out (by decide) ((HBb.out.cell (p := ⟨p, o + 8, none⟩) (lt_of_cell HM8.out)).trans HM8.out) (RowV.below HWK.out HBb.out) HLb.out ?_
  intro v93 v94 v95 v96 v97 v98 v99 v100 v101 v102 v103 v104 v105 v106 v107 v108 v109 v110 v111 v112 v113 v114 v12 wc hbc
  have HBc := toHid (HBb.out.trans (hbc.mono HBb.out.size))
  have HLc := toHid (RowV.below HLb.out hbc)
  clear hbc
  obtain ⟨tB, htB⟩ : ∃ tB, tB = gLines sWeak rr ⟨#[]⟩ m.K := ⟨_, rfl⟩
  rw [← htB] at HSZ2
  rw [← htB]
  have HTB := toHid htB
  clear htB
  go_upto_block 8 with fail
  refine graph_b8 (F := m.F) (m0 := tB) hrl H6.out HOK.out bI (by have := HSZ2.out; omega) ((HBc.out.cell (p := ⟨p, o + 9, none⟩) (lt_of_cell HM9.out)).trans HM9.out) (RowV.below HWI.out HBc.out) HLc.out ?_
  intro v115 v116 v117 v118 v119 v120 v121 v122 v123 v124 v125 v126 v127 v128 v129 v130 v131 v132 v133 v134 v135 v136 v137 v138 v139 v140 v141 v142 v143 v144 v145 v146 v147 v148 v149 v150 v151 v152 v153 v154 v155 v156 v157 v158 v159 v160 v161 v162 v163 v164 v165 v166 v167 v168 v169 v170 v171 v172 v173 v174 v175 v176 v177 v178 v179 v180 v181 v182 v183 v184 v185 v186 v187 v188 v189 v190 v191 v192 v11 v13 v14 v15 v16 wd hbd
  have HBd := toHid (HBc.out.trans (hbd.mono HBc.out.size))
  clear hbd
  go_ret2
  exact ⟨by rw [← HTA.out, ← HTB.out]; rfl, HBd.out⟩
end Go.Proofs.YtebhakmladbjlaaGreatDoor

/- The document's memory: numbers that do not fit (Shaped), by a contract. -/
namespace Go.Proofs.YtebhakmladbjlaaGreatDoor
open Go.RowKit

theorem shaped_no (p o : Nat) (half old card : Int) (nW nC cW cC : Nat) (aW aC : Option Addr) (used top oldTop : Int) (r k i : Value) (F : ¬ Fits half old card nW nC used top oldTop) (w : World)
    (M : MemO p o half old card (.slice aW nW cW) used top oldTop r k i (.slice aC nC cC) w) :
    Calls Tryz.prog 17 #[.pointer (some ⟨p, o, none⟩)] w fun ev w' => ev = .returned (.bool false) ∧ ∃ q, w' = w.drewN q := by
  by_cases a0 : 1 ≤ half
  · by_cases a1 : half ≤ 65536
    · by_cases a2 : 1 ≤ old
      · by_cases a3 : old ≤ 65536
        · by_cases a4 : 1 ≤ card
          · by_cases a5 : card ≤ 1024
            · obtain ⟨k1, k2, k3, k4, k5, k6⟩ := cards_two a2 a4
              have e1 : IntKind.i64.wrap (old.tdiv card) = old / card := by rw [Int.tdiv_eq_ediv_of_nonneg (by omega), wrapI _ (by omega) (by omega)]
              have e2 : IntKind.i64.wrap (old / card * card) = old / card * card := wrapI _ (by omega) (by omega)
              have hm : (old / card * card < old ∧ (old + card - 1) / card = old / card + 1) ∨ (¬ old / card * card < old ∧ (old + card - 1) / card = old / card) := by
                by_cases h : old / card * card < old
                · exact .inl ⟨h, k1 h⟩
                · exact .inr ⟨h, k2 h⟩
              by_cases hW : (nW : Int) = 2 * half + old
              · have e4 : IntKind.i64.wrap (2 * half + old) = (nW : Int) := by rw [wrapI _ (by omega) (by omega)]; exact hW.symm
                by_cases hC : (nC : Int) = (old + card - 1) / card
                · have e5 : ((nC : Int) != (old + card - 1) / card) = false := by rw [hC]; simp
                  by_cases u0 : 0 ≤ used
                  · by_cases u1 : used ≤ 1
                    · by_cases t0 : 0 ≤ top
                      · by_cases t1 : top ≤ half
                        · by_cases o0 : 0 ≤ oldTop
                          · by_cases o1 : oldTop ≤ old
                            · exact absurd ⟨⟨a0, a1, a2, a3, a4, a5⟩, hW, hC, u0, u1, t0, t1, o0, o1⟩ F
                            · exact shaped_noo1 p o half old card nW nC cW cC aW aC used top oldTop r k i a0 a1 a2 a3 a4 a5 _ _ e1 e2 k3 (by omega) _ hm e4 e5 u0 u1 t0 t1 o0 (by omega) w M
                          · exact shaped_noo0 p o half old card nW nC cW cC aW aC used top oldTop r k i a0 a1 a2 a3 a4 a5 _ _ e1 e2 k3 (by omega) _ hm e4 e5 u0 u1 t0 t1 (by omega) w M
                        · exact shaped_not1 p o half old card nW nC cW cC aW aC used top oldTop r k i a0 a1 a2 a3 a4 a5 _ _ e1 e2 k3 (by omega) _ hm e4 e5 u0 u1 t0 (by omega) w M
                      · exact shaped_not0 p o half old card nW nC cW cC aW aC used top oldTop r k i a0 a1 a2 a3 a4 a5 _ _ e1 e2 k3 (by omega) _ hm e4 e5 u0 u1 (by omega) w M
                    · exact shaped_nou1 p o half old card nW nC cW cC aW aC used top oldTop r k i a0 a1 a2 a3 a4 a5 _ _ e1 e2 k3 (by omega) _ hm e4 e5 (by omega) w M
                  · exact shaped_nou0 p o half old card nW nC cW cC aW aC used top oldTop r k i a0 a1 a2 a3 a4 a5 _ _ e1 e2 k3 (by omega) _ hm e4 e5 (by omega) w M
                · have e5 : ((nC : Int) != (old + card - 1) / card) = true := by rw [bne_iff_ne]; exact hC
                  exact shaped_noC p o half old card nW nC cW cC aW aC used top oldTop r k i a0 a1 a2 a3 a4 a5 _ _ e1 e2 k3 (by omega) _ hm e4 e5 w M
              · have e4 : ((nW : Int) != 2 * half + old) = true := by rw [bne_iff_ne]; exact hW
                exact shaped_noW p o half old card nW nC cW cC aW aC used top oldTop r k i a0 a1 a2 a3 a4 a5 _ _ e1 e2 k3 (by omega) _ hm e4 w M
            · exact shaped_num5 p o half old card nW nC cW cC aW aC used top oldTop r k i a0 a1 a2 a3 a4 (by omega) w M
          · exact shaped_num4 p o half old card nW nC cW cC aW aC used top oldTop r k i a0 a1 a2 a3 (by omega) w M
        · exact shaped_num3 p o half old card nW nC cW cC aW aC used top oldTop r k i a0 a1 a2 (by omega) w M
      · exact shaped_num2 p o half old card nW nC cW cC aW aC used top oldTop r k i a0 a1 (by omega) w M
    · exact shaped_num1 p o half old card nW nC cW cC aW aC used top oldTop r k i a0 (by omega) w M
  · exact shaped_num0 p o half old card nW nC cW cC aW aC used top oldTop r k i (by omega) w M
end Go.Proofs.YtebhakmladbjlaaGreatDoor

/- The document's memory: CheckOf, by a walk (under way). -/
namespace Go.Proofs.YtebhakmladbjlaaGreatDoor
open Go.RowKit

set_option maxRecDepth 100000 in
theorem checkOf_nil (w : World) : Calls Tryz.prog 6 #[.pointer none] w fun ev w' => ev = .returned (.int .i64 3) ∧ Below w.heap.size w w' := by
  have ks : Calls Tryz.prog 17 #[.pointer none] w fun ev w' => ev = .returned (.bool false) ∧ w' = w := by
    go_enter Tryz.func17, Tryz.ntmps17
    go_wp2_with fail
    go_ret
    exact ⟨rfl, rfl⟩
  go_enter Tryz.func6, Tryz.ntmps6
  go_wp2_with fail
  refine ks.mono ?_
  rintro ev w1 ⟨rfl, hq⟩
  rw [hq]
  clear hq w1
  go_wp2_with fail
  go_ret
  exact ⟨rfl, Below.refl _ _⟩
set_option maxRecDepth 100000 in
theorem checkOf_unfit (p o : Nat) (m : MD) (hF : ¬ m.FitsM) (w : World) (R : RepM p o m w) : Calls Tryz.prog 6 #[.pointer (some ⟨p, o, none⟩)] w fun ev w' => ev = .returned (.int .i64 3) ∧ Below w.heap.size w w' := by
  obtain ⟨_, _, _, _, _, hp, M, ⟨aW, cW, rfl, _⟩, _, _, _, ⟨aC, cC, rfl, _⟩⟩ := R
  have ks := shaped_no p o m.half m.old m.card m.W.length m.C.length cW cC aW aC m.used m.top m.oldTop _ _ _ hF w M
  go_enter Tryz.func6, Tryz.ntmps6
  go_wp2_with fail
  refine ks.mono ?_
  rintro ev w1 ⟨rfl, q, hq⟩
  have hb1 : Below w.heap.size w w1 := by rw [hq]; exact below_drewN (Below.refl _ _)
  clear hq
  go_wp2_with fail
  go_ret
  exact ⟨rfl, hb1⟩
end Go.Proofs.YtebhakmladbjlaaGreatDoor

/- The law MemChecks by a walk. -/
namespace Go.Proofs.YtebhakmladbjlaaGreatDoor
open Go.RowKit

/-- What the document's CheckOf answers. -/
def CheckPost (m : MD) (w : World) (ev : Ending) (w' : World) : Prop := Below w.heap.size w w' ∧ ((∃ vs, m.Shape vs ∧ m.cardsB = true ∧ ev = .returned (.int .i64 0)) ∨ (∃ vs, m.Shape vs ∧ m.cardsB = false ∧ ev = .returned (.int .i64 5)) ∨ ((∀ vs, ¬ m.Shape vs) ∧ ev = .returned (.int .i64 3)))
theorem checkOf_any (p o : Nat) (m : MD) (h64 : MD64 m) (bR : m.R.length ≤ 300000) (bK : m.K.length ≤ 300000) (bI : m.I.length ≤ 300000) (w : World) (R : RepM p o m w) :
    Calls Tryz.prog 6 #[.pointer (some ⟨p, o, none⟩)] w (CheckPost m w) := by
  by_cases hF : m.FitsM
  · refine (checkOf_fit p o m hF h64 bR bK bI w R).mono ?_
    rintro ev w' ⟨n, rfl, hb, hc⟩
    rcases hc.out hF h64 with ⟨vs, h1, h2, rfl⟩ | ⟨vs, h1, h2, rfl⟩ | ⟨h1, rfl⟩
    · exact ⟨hb, .inl ⟨vs, h1, h2, rfl⟩⟩
    · exact ⟨hb, .inr (.inl ⟨vs, h1, h2, rfl⟩)⟩
    · exact ⟨hb, .inr (.inr ⟨h1, rfl⟩)⟩
  · refine (checkOf_unfit p o m hF w R).mono ?_
    rintro ev w' ⟨rfl, hb⟩
    exact ⟨hb, .inr (.inr ⟨fun vs h => hF h.1, rfl⟩)⟩
/-- What the program's Check answers. -/
def ChecksPost (a : Nat → Addr) (m : MD) (w : World) (ev : Ending) (w' : World) : Prop := Below w.heap.size w w' ∧ ((∃ vs, m.Shape vs ∧ m.cardsB = true ∧ ev = .returned .nilIface) ∨ (∃ vs, m.Shape vs ∧ m.cardsB = false ∧ ev = .returned (errV a 4)) ∨ ((∀ vs, ¬ m.Shape vs) ∧ ev = .returned (errV a 2)))
theorem check_all (a : Nat → Addr) (p : Nat) (m : MD) (h64 : MD64 m) (bR : m.R.length ≤ 300000) (bK : m.K.length ≤ 300000) (bI : m.I.length ≤ 300000) (w : World) (E : MErr3 a w) (R : RepP p m w) :
    Calls Tryz.prog 9 #[.pointer (some ⟨p, 0, none⟩)] w (ChecksPost a m w) := by
  have ks := survey_any3 a p m h64 bR bK bI w E R
  clear E R h64
  go_enter Tryz.func9, Tryz.ntmps9
  go_wp2_with fail
  refine ks.mono ?_
  clear ks
  rintro ev w1 ⟨hb1, ⟨vs, bh, hs, hC, rfl, _, _⟩ | ⟨vs, hs, hC, rfl⟩ | ⟨hno, rfl⟩⟩
  · have HP : Hid (ChecksPost a m w (.returned .nilIface) w1) := ⟨hb1, .inl ⟨vs, hs, hC, rfl⟩⟩
    clear hs hC hb1
    go_wp2_with fail
    go_ret
    exact HP.out
  · have HP : Hid (ChecksPost a m w (.returned (errV a 4)) w1) := ⟨hb1, .inr (.inl ⟨vs, hs, hC, rfl⟩)⟩
    unfold errV at *
    clear hs hC hb1
    go_wp2_with fail
    go_ret
    exact HP.out
  · have HP : Hid (ChecksPost a m w (.returned (errV a 2)) w1) := ⟨hb1, .inr (.inr ⟨hno, rfl⟩)⟩
    unfold errV at *
    clear hno hb1
    go_wp2_with fail
    go_ret
    exact HP.out
theorem coded_zero (w : World) : Calls Tryz.prog 8 #[.nilIface, .int .i64 0] w fun ev w' => ev = .returned (.bool true) ∧ Below w.heap.size w w' := by
  have h := code_nil w
  go_enter Tryz.func8, Tryz.ntmps8
  go_wp2_with fail
  refine h.mono ?_
  rintro ev w1 ⟨rfl, hb⟩
  go_wp2
  go_ret
  exact ⟨rfl, Below.refl _ _⟩
theorem memOf_nil (w : World) : Calls Tryz.prog 7 #[.pointer none] w fun ev w' => ev = .returned (.pointer none) ∧ w' = w := by
  go_enter Tryz.func7, Tryz.ntmps7
  go_wp2_with fail
  go_ret
  exact ⟨rfl, rfl⟩
theorem near_nil (w : World) : Calls Tryz.prog 5 #[.pointer none] w fun ev w' => ev = .returned (.bool true) ∧ w' = w := by
  go_enter Tryz.func5, Tryz.ntmps5
  go_wp2
  go_ret
  exact ⟨rfl, rfl⟩
theorem check_nil (a : Nat → Addr) (w : World) (E : MErr a w) : Calls Tryz.prog 9 #[.pointer none] w fun ev w' => ev = .returned (errV a 2) ∧ Below w.heap.size w w' := by
  have ks := survey_nil a w E
  unfold errV at *
  clear E
  go_enter Tryz.func9, Tryz.ntmps9
  go_wp2_with fail
  refine ks.mono ?_
  rintro ev w1 ⟨rfl, hb⟩
  go_wp2_with fail
  go_ret
  exact ⟨rfl, hb⟩
theorem graph_nil (a : Nat → Addr) (w : World) (E : MErr a w) : Calls Tryz.prog 10 #[.pointer none] w fun ev w' => ev = .returned (.tuple #[.string ⟨#[]⟩, errV a 2]) ∧ Below w.heap.size w w' := by
  have ks := survey_nil a w E
  unfold errV at *
  clear E
  go_enter Tryz.func10, Tryz.ntmps10
  go_wp2_with fail
  refine ks.mono ?_
  rintro ev w1 ⟨rfl, hb⟩
  go_wp2_with fail
  go_ret2
  exact ⟨rfl, hb⟩
theorem live_nil (a : Nat → Addr) (w : World) (E : MErr a w) : Calls Tryz.prog 11 #[.pointer none] w fun ev w' => ev = .returned (.tuple #[.int .i64 0, errV a 2]) ∧ Below w.heap.size w w' := by
  have ks := survey_nil a w E
  unfold errV at *
  clear E
  go_enter Tryz.func11, Tryz.ntmps11
  go_wp2_with fail
  refine ks.mono ?_
  rintro ev w1 ⟨rfl, hb⟩
  go_wp2_with fail
  go_ret2
  exact ⟨rfl, hb⟩
theorem errs_3 {a : Nat → Addr} {w : World} (E : Errs a w) : MErr3 a w := ⟨E.c1, E.c2, E.c4⟩
theorem gIds_size {out : List Nat} (hn : out.length ≤ 300000) : ∀ (l : List (Int × Int)) (A : ByteArray), Ids64 l → (gIds out A l).size ≤ A.size + l.length * 80
  | [], A, _ => by simp [gIds]
  | x :: l, A, h => by
    have h1 := gIds_size hn l (gId out A x) (fun y hy => h y (List.mem_cons_of_mem _ hy))
    have h2 := gId_size hn A (h x (List.mem_cons_self ..)).2
    show (gIds out (gId out A x) l).size ≤ _
    rw [List.length_cons]
    omega
theorem textA_size {m : MD} {vs : List Nat} (hS : m.Shape vs) (h64 : MD64 m) (bR : m.R.length ≤ 300000) : (m.textA vs).size ≤ 100000000000 := by
  have hU := reach_outs hS h64
  have hol := hU.len
  have hfew := hS.few
  have hrl : (m.reach vs).length ≤ 300000 := by omega
  have h1 := gLines_size (show sRoot.size = 5 from rfl) hrl m.R ⟨#[]⟩
  have h2 := gObjsP_size (F := m.F) hrl (fun f hf => by
    obtain ⟨hfh, hfl⟩ := hS.fine f (hU.sub f hf)
    have hr := md_range h64 f (by have := (shape_len hS).2.1; omega)
    unfold headB at hfh
    have := of_decide_eq_true hfh
    unfold szN
    omega) (gLines sRoot (m.reach vs) ⟨#[]⟩ m.R) (m.reach vs).length (Nat.le_refl _)
  have h3 : (ByteArray.mk #[]).size = 0 := rfl
  unfold MD.textA
  omega
theorem textB_size {m : MD} {vs : List Nat} (hS : m.Shape vs) (h64 : MD64 m) (bK : m.K.length ≤ 300000) (bI : m.I.length ≤ 300000) : (m.textB vs).size ≤ 100000000000 := by
  have hU := reach_outs hS h64
  have hol := hU.len
  have hfew := hS.few
  have hrl : (m.reach vs).length ≤ 300000 := by omega
  have h1 := gLines_size (show sWeak.size = 5 from rfl) hrl m.K ⟨#[]⟩
  have h2 := gIds_size hrl (ordI m.I) (gLines sWeak (m.reach vs) ⟨#[]⟩ m.K) (ord64 h64.i)
  have h3 : (ByteArray.mk #[]).size = 0 := rfl
  rw [ordI_len] at h2
  unfold MD.textB
  omega
set_option maxHeartbeats 2000000 in
set_option maxRecDepth 100000 in
theorem memChecks_nil (a : Nat → Addr) (w : World) (E : Errs a w) : Calls Tryz.prog 3 #[.pointer none] w fun ev w' => ev = .returned (.bool true) ∧ Below w.heap.size w w' := by
  have HE := toHid E
  clear E
  go_enter Tryz.func3, Tryz.ntmps3
  go_wp2_with fail
  refine (fresh_any w).mono ?_
  rintro ev w1 ⟨rfl, hb1⟩
  go_wp2_with fail
  refine (near_nil w1).mono ?_
  rintro ev w2 ⟨rfl, hq⟩
  rw [hq]
  clear hq w2
  go_wp2_with fail
  refine (checkOf_nil w1).mono ?_
  rintro ev w2 ⟨rfl, hb2⟩
  have b2 := hb1.trans (hb2.mono hb1.size)
  go_wp2_with fail
  refine (memOf_nil w2).mono ?_
  rintro ev w3 ⟨rfl, hq⟩
  rw [hq]
  clear hq w3
  go_wp2_with fail
  refine (check_nil a w2 (HE.out.below b2).me).mono ?_
  rintro ev w3 ⟨rfl, hb3⟩
  have b3 := b2.trans (hb3.mono b2.size)
  have kc3 := coded_any a 2 (by decide) w3 (HE.out.below b3)
  unfold errV at *
  go_wp2_with fail
  refine kc3.mono ?_
  rintro ev w4 ⟨rfl, hb4⟩
  have b4 := b3.trans (hb4.mono b3.size)
  have kg := graph_nil a w4 (HE.out.below b4).me
  unfold errV at kg
  go_wp2_with fail
  refine kg.mono ?_
  rintro ev w5 ⟨rfl, hb5⟩
  have b5 := b4.trans (hb5.mono b4.size)
  have kl := live_nil a w5 (HE.out.below b5).me
  unfold errV at kl
  go_wp2_with fail
  refine kl.mono ?_
  rintro ev w6 ⟨rfl, hb6⟩
  have b6 := b5.trans (hb6.mono b5.size)
  have kc6 := coded_any a 2 (by decide) w6 (HE.out.below b6)
  unfold errV at kc6
  go_wp2_with fail
  refine kc6.mono ?_
  rintro ev w7 ⟨rfl, hb7⟩
  have b7 := b6.trans (hb7.mono b6.size)
  have kc7 := coded_any a 2 (by decide) w7 (HE.out.below b7)
  unfold errV at kc7
  go_wp2_with fail
  refine kc7.mono ?_
  rintro ev w8 ⟨rfl, hb8⟩
  have b8 := b7.trans (hb8.mono b7.size)
  go_wp2_with fail
  go_ret
  exact ⟨rfl, b8⟩
theorem memChecks_far (p o : Nat) (m : MD) (w : World) (h : RepM p o m w) (hn : ¬ (m.W.length ≤ 1000 ∧ m.R.length ≤ 100 ∧ m.K.length ≤ 100 ∧ m.I.length ≤ 100 ∧ m.C.length ≤ 1000)) : Calls Tryz.prog 3 #[.pointer (some ⟨p, o, none⟩)] w fun ev w' => ev = .returned (.bool true) ∧ Below w.heap.size w w' := by
  go_enter Tryz.func3, Tryz.ntmps3
  go_wp2_with fail
  refine (fresh_any w).mono ?_
  rintro ev w1 ⟨rfl, hb⟩
  go_wp2_with fail
  refine (near_no p o m w1 (h.below hb) hn).mono ?_
  rintro ev w2 ⟨rfl, hq⟩
  rw [hq]
  clear hq w2
  go_wp2_with fail
  go_ret
  exact ⟨rfl, hb⟩
/-- What is known of the program's answers where the document's CheckOf says so. -/
structure NoFit (a : Nat → Addr) (m : MD) (k : Nat) : Prop where
  chk : ∀ {w : World} {ev : Ending} {w' : World}, ChecksPost a m w ev w' → Below w.heap.size w w' ∧ ev = .returned (errV a k)
  grp : ∀ {w : World} {ev : Ending} {w' : World}, GraphPost a m w ev w' → Below w.heap.size w w' ∧ ev = .returned (.tuple #[.string ⟨#[]⟩, errV a k])
  liv : ∀ {w : World} {ev : Ending} {w' : World}, LivePost a m w ev w' → Below w.heap.size w w' ∧ ev = .returned (.tuple #[.int .i64 0, errV a k])
theorem noFit_2 (a : Nat → Addr) {m : MD} (h : ∀ vs, ¬ m.Shape vs) : NoFit a m 2 where
  chk := fun ⟨hb, hc⟩ => by
    rcases hc with ⟨vs, hs, _⟩ | ⟨vs, hs, _⟩ | ⟨_, e⟩
    · exact absurd hs (h vs)
    · exact absurd hs (h vs)
    · exact ⟨hb, e⟩
  grp := fun ⟨hb, hc⟩ => by
    rcases hc with ⟨vs, hs, _⟩ | ⟨vs, hs, _⟩ | ⟨_, e⟩
    · exact absurd hs (h vs)
    · exact absurd hs (h vs)
    · exact ⟨hb, e⟩
  liv := fun ⟨hb, hc⟩ => by
    rcases hc with ⟨vs, hs, _⟩ | ⟨vs, hs, _⟩ | ⟨_, e⟩
    · exact absurd hs (h vs)
    · exact absurd hs (h vs)
    · exact ⟨hb, e⟩
theorem noFit_4 (a : Nat → Addr) {m : MD} {us : List Nat} (h : m.Shape us) (hc0 : m.cardsB = false) : NoFit a m 4 where
  chk := fun ⟨hb, hc⟩ => by
    rcases hc with ⟨vs, _, h2, _⟩ | ⟨vs, _, _, e⟩ | ⟨hno, _⟩
    · rw [hc0] at h2; cases h2
    · exact ⟨hb, e⟩
    · exact absurd h (hno us)
  grp := fun ⟨hb, hc⟩ => by
    rcases hc with ⟨vs, _, h2, _⟩ | ⟨vs, _, _, e⟩ | ⟨hno, _⟩
    · rw [hc0] at h2; cases h2
    · exact ⟨hb, e⟩
    · exact absurd h (hno us)
  liv := fun ⟨hb, hc⟩ => by
    rcases hc with ⟨vs, _, h2, _⟩ | ⟨vs, _, _, e⟩ | ⟨hno, _⟩
    · rw [hc0] at h2; cases h2
    · exact ⟨hb, e⟩
    · exact absurd h (hno us)
/-- Where it is right. -/
structure YesFit (m : MD) (vs : List Nat) : Prop where
  chk : ∀ {a : Nat → Addr} {w : World} {ev : Ending} {w' : World}, ChecksPost a m w ev w' → Below w.heap.size w w' ∧ ev = .returned .nilIface
  grp : ∀ {a : Nat → Addr} {w : World} {ev : Ending} {w' : World}, GraphPost a m w ev w' → Below w.heap.size w w' ∧ ev = .returned (.tuple #[.string (m.text vs), .nilIface])
  liv : ∀ {a : Nat → Addr} {w : World} {ev : Ending} {w' : World}, LivePost a m w ev w' → Below w.heap.size w w' ∧ ev = .returned (.tuple #[.int .i64 (m.live vs : Int), .nilIface])
theorem yesFit {m : MD} {vs : List Nat} (h : m.Shape vs) (hc1 : m.cardsB = true) : YesFit m vs where
  chk := fun ⟨hb, hc⟩ => by
    rcases hc with ⟨us, _, _, e⟩ | ⟨us, _, h2, _⟩ | ⟨hno, _⟩
    · exact ⟨hb, e⟩
    · rw [hc1] at h2; cases h2
    · exact absurd h (hno vs)
  grp := fun ⟨hb, hc⟩ => by
    rcases hc with ⟨us, h1, _, e⟩ | ⟨us, _, h2, _⟩ | ⟨hno, _⟩
    · rw [h.one h1] at e
      exact ⟨hb, e⟩
    · rw [hc1] at h2; cases h2
    · exact absurd h (hno vs)
  liv := fun ⟨hb, hc⟩ => by
    rcases hc with ⟨us, h1, _, e⟩ | ⟨us, _, h2, _⟩ | ⟨hno, _⟩
    · rw [h.one h1] at e
      exact ⟨hb, e⟩
    · rw [hc1] at h2; cases h2
    · exact absurd h (hno vs)
set_option maxHeartbeats 8000000 in
set_option maxRecDepth 100000 in
theorem memChecks_near (a : Nat → Addr) (p o : Nat) (m : MD) (w : World) (E : Errs a w) (ht : TabbedM w) (hz : Tz16 w) (h : RepM p o m w) (h64 : MD64 m) (n1 : m.W.length ≤ 1000) (n2 : m.R.length ≤ 100) (n3 : m.K.length ≤ 100) (n4 : m.I.length ≤ 100) (n5 : m.C.length ≤ 1000) : Calls Tryz.prog 3 #[.pointer (some ⟨p, o, none⟩)] w fun ev w' => ev = .returned (.bool true) ∧ Below w.heap.size w w' := by
  have HE := toHid E
  have HT := toHid ht
  have HZ := toHid hz
  have HR := toHid h
  have H64 := toHid h64
  clear E h h64 ht hz
  go_enter Tryz.func3, Tryz.ntmps3
  go_wp2_with fail
  refine (fresh_any w).mono ?_
  rintro ev w1 ⟨rfl, hb1⟩
  go_wp2_with fail
  refine (near_yes p o m w1 (HR.out.below hb1) n1 n2 n3 n4 n5).mono ?_
  rintro ev w2 ⟨rfl, hq⟩
  rw [hq]
  clear hq w2
  go_wp2_with fail
  refine (checkOf_any p o m H64.out (by omega) (by omega) (by omega) w1 (HR.out.below hb1)).mono ?_
  rintro ev w2 ⟨hb2, hc⟩
  have b2 := hb1.trans (hb2.mono hb1.size)
  clear hb1
  rcases hc with ⟨vs, hS, hC, rfl⟩ | ⟨vs, hS, hC, rfl⟩ | ⟨hnS, rfl⟩
  · have hyes := yesFit hS hC
    have HS := toHid hS
    have HY := toHid hyes
    clear hb2 hS hC hyes
    go_wp2_with fail
    refine (memOf_rep p o m w2 (HR.out.below b2) (by omega) (by omega) (by omega) (by omega) (by omega)).mono ?_
    rintro ev w3 ⟨bx, rfl, _, R3, hb3⟩
    have b3 := b2.trans (hb3.mono b2.size)
    have kc := check_all a bx m H64.out (by omega) (by omega) (by omega) w3 (errs_3 (HE.out.below b3)) R3
    have HR3 := toHid R3
    clear R3 hb3
    go_wp2_with fail
    refine kc.mono ?_
    intro ev w4 hq
    obtain ⟨hb4, rfl⟩ := HY.out.chk hq
    have b4 := b3.trans (hb4.mono b3.size)
    have HR4 := toHid (HR3.out.below hb4)
    clear kc hq HR3 hb4
    go_wp2_with fail
    refine (coded_zero w4).mono ?_
    rintro ev w5 ⟨rfl, hb5⟩
    have b5 := b4.trans (hb5.mono b4.size)
    have HR5 := toHid (HR4.out.below hb5)
    have kg := graph_any a bx m H64.out (by omega) (by omega) (by omega) w5 (errs_3 (HE.out.below b5)) (HT.out.below b5 (Nat.le_refl _)) (HZ.out.below b5 (Nat.le_refl _)) HR5.out
    clear hb5 HR4
    go_wp2_with fail
    refine kg.mono ?_
    intro ev w6 hq
    obtain ⟨hb6, rfl⟩ := HY.out.grp hq
    have b6 := b5.trans (hb6.mono b5.size)
    have HR6 := toHid (HR5.out.below hb6)
    have kl := live_any a bx m H64.out (by omega) (by omega) (by omega) w6 (errs_3 (HE.out.below b6)) HR6.out
    clear kg hq hb6 HR5
    go_wp2_with fail
    refine kl.mono ?_
    intro ev w7 hq
    obtain ⟨hb7, rfl⟩ := HY.out.liv hq
    have b7 := b6.trans (hb7.mono b6.size)
    have HR7 := toHid (HR6.out.below hb7)
    clear kl hq hb7 HR6
    have ko := graphOf_any p o m vs HS.out H64.out (by omega) (by omega) (by omega) w7 (HR.out.below b7)
    have hsA := textA_size HS.out H64.out (by omega)
    have hsB := textB_size HS.out H64.out (by omega) (by omega)
    rw [text_same]
    obtain ⟨tA, htA⟩ : ∃ tA, tA = m.textA vs := ⟨_, rfl⟩
    obtain ⟨tB, htB⟩ : ∃ tB, tB = m.textB vs := ⟨_, rfl⟩
    rw [← htA] at hsA ko
    rw [← htB] at hsB ko
    rw [← htA, ← htB]
    have a1 := fun wx => run_string_add_sum (P := Tryz.prog) (w := wx) tA tB (by omega)
    obtain ⟨tt, htt⟩ : ∃ tt, tt = tA ++ tB := ⟨_, rfl⟩
    rw [← htt] at a1
    rw [← htt]
    obtain ⟨lv, hlv⟩ : ∃ lv, lv = m.live vs := ⟨_, rfl⟩
    have HLV := toHid hlv
    rw [← hlv]
    clear htA htB hsA hsB htt hlv
    go_wp2_with fail
    refine ko.mono ?_
    rintro ev w8 ⟨rfl, hb8⟩
    have b8 := b7.trans (hb8.mono b7.size)
    have HR8 := toHid (HR7.out.below hb8)
    have kv := liveOf_any p o m vs HS.out H64.out (by omega) w8 (HR.out.below b8)
    rw [← HLV.out] at kv
    clear ko hb8 HR7
    go_wp2_with fail
    refine kv.mono ?_
    rintro ev w9 ⟨rfl, hb9⟩
    have b9 := b8.trans (hb9.mono b8.size)
    have HR9 := toHid (HR8.out.below hb9)
    have km := memBack_any bx m w9 HR9.out.rep (by omega) (by omega) (by omega) (by omega) (by omega)
    clear kv hb9 HR8
    go_wp2_with fail
    refine km.mono ?_
    rintro ev wa ⟨by', rfl, _, Ra, hba⟩
    have ba := b9.trans (hba.mono b9.size)
    have kz := sameMemory_eq by' 0 p o m wa Ra (HR.out.below ba) (by omega) (by omega) (by omega) (by omega) (by omega)
    clear km hba Ra
    go_wp2_with fail
    refine kz.mono ?_
    rintro ev wb ⟨rfl, hbb⟩
    have bb := ba.trans (hbb.mono ba.size)
    go_wp2_with fail
    go_ret
    exact ⟨rfl, bb⟩
  · have hno : NoFit a m 4 := noFit_4 a hS hC
    clear hS hC hb2
    go_wp2_with fail
    refine (memOf_rep p o m w2 (HR.out.below b2) (by omega) (by omega) (by omega) (by omega) (by omega)).mono ?_
    rintro ev w3 ⟨bx, rfl, _, R3, hb3⟩
    have b3 := b2.trans (hb3.mono b2.size)
    have kc := check_all a bx m H64.out (by omega) (by omega) (by omega) w3 (errs_3 (HE.out.below b3)) R3
    have HR3 := toHid R3
    clear R3 hb3
    go_wp2_with fail
    refine kc.mono ?_
    intro ev w4 hq
    obtain ⟨hb4, rfl⟩ := hno.chk hq
    have b4 := b3.trans (hb4.mono b3.size)
    have R4 := HR3.out.below hb4
    have kd := coded_any a 4 (by decide) w4 (HE.out.below b4)
    have HR4 := toHid R4
    unfold errV at *
    clear kc hq R4 HR3 hb4
    go_wp2_with fail
    refine kd.mono ?_
    rintro ev w5 ⟨rfl, hb5⟩
    have b5 := b4.trans (hb5.mono b4.size)
    have HR5 := toHid (HR4.out.below hb5)
    have kg := graph_any a bx m H64.out (by omega) (by omega) (by omega) w5 (errs_3 (HE.out.below b5)) (HT.out.below b5 (Nat.le_refl _)) (HZ.out.below b5 (Nat.le_refl _)) HR5.out
    clear kd hb5 HR4
    go_wp2_with fail
    refine kg.mono ?_
    intro ev w6 hq
    obtain ⟨hb6, rfl⟩ := hno.grp hq
    have b6 := b5.trans (hb6.mono b5.size)
    have HR6 := toHid (HR5.out.below hb6)
    have kl := live_any a bx m H64.out (by omega) (by omega) (by omega) w6 (errs_3 (HE.out.below b6)) HR6.out
    unfold errV at *
    clear kg hq hb6 HR5
    go_wp2_with fail
    refine kl.mono ?_
    intro ev w7 hq
    obtain ⟨hb7, rfl⟩ := hno.liv hq
    have b7 := b6.trans (hb7.mono b6.size)
    have k1 := coded_any a 4 (by decide) w7 (HE.out.below b7)
    unfold errV at *
    clear kl hq hb7 HR6
    go_wp2_with fail
    refine k1.mono ?_
    rintro ev w8 ⟨rfl, hb8⟩
    have b8 := b7.trans (hb8.mono b7.size)
    have k2 := coded_any a 4 (by decide) w8 (HE.out.below b8)
    unfold errV at k2
    clear k1 hb8
    go_wp2_with fail
    refine k2.mono ?_
    rintro ev w9 ⟨rfl, hb9⟩
    have b9 := b8.trans (hb9.mono b8.size)
    go_wp2_with fail
    go_ret
    exact ⟨rfl, b9⟩
  · have hno : NoFit a m 2 := noFit_2 a hnS
    clear hnS hb2
    go_wp2_with fail
    refine (memOf_rep p o m w2 (HR.out.below b2) (by omega) (by omega) (by omega) (by omega) (by omega)).mono ?_
    rintro ev w3 ⟨bx, rfl, _, R3, hb3⟩
    have b3 := b2.trans (hb3.mono b2.size)
    have kc := check_all a bx m H64.out (by omega) (by omega) (by omega) w3 (errs_3 (HE.out.below b3)) R3
    have HR3 := toHid R3
    clear R3 hb3
    go_wp2_with fail
    refine kc.mono ?_
    intro ev w4 hq
    obtain ⟨hb4, rfl⟩ := hno.chk hq
    have b4 := b3.trans (hb4.mono b3.size)
    have R4 := HR3.out.below hb4
    have kd := coded_any a 2 (by decide) w4 (HE.out.below b4)
    have HR4 := toHid R4
    unfold errV at *
    clear kc hq R4 HR3 hb4
    go_wp2_with fail
    refine kd.mono ?_
    rintro ev w5 ⟨rfl, hb5⟩
    have b5 := b4.trans (hb5.mono b4.size)
    have HR5 := toHid (HR4.out.below hb5)
    have kg := graph_any a bx m H64.out (by omega) (by omega) (by omega) w5 (errs_3 (HE.out.below b5)) (HT.out.below b5 (Nat.le_refl _)) (HZ.out.below b5 (Nat.le_refl _)) HR5.out
    clear kd hb5 HR4
    go_wp2_with fail
    refine kg.mono ?_
    intro ev w6 hq
    obtain ⟨hb6, rfl⟩ := hno.grp hq
    have b6 := b5.trans (hb6.mono b5.size)
    have HR6 := toHid (HR5.out.below hb6)
    have kl := live_any a bx m H64.out (by omega) (by omega) (by omega) w6 (errs_3 (HE.out.below b6)) HR6.out
    unfold errV at *
    clear kg hq hb6 HR5
    go_wp2_with fail
    refine kl.mono ?_
    intro ev w7 hq
    obtain ⟨hb7, rfl⟩ := hno.liv hq
    have b7 := b6.trans (hb7.mono b6.size)
    have k1 := coded_any a 2 (by decide) w7 (HE.out.below b7)
    unfold errV at *
    clear kl hq hb7 HR6
    go_wp2_with fail
    refine k1.mono ?_
    rintro ev w8 ⟨rfl, hb8⟩
    have b8 := b7.trans (hb8.mono b7.size)
    have k2 := coded_any a 2 (by decide) w8 (HE.out.below b8)
    unfold errV at k2
    clear k1 hb8
    go_wp2_with fail
    refine k2.mono ?_
    rintro ev w9 ⟨rfl, hb9⟩
    have b9 := b8.trans (hb9.mono b8.size)
    go_wp2_with fail
    go_ret
    exact ⟨rfl, b9⟩
/-- The law of any memory. -/
theorem memChecks_any (a : Nat → Addr) (p o : Nat) (m : MD) (w : World) (E : Errs a w) (ht : TabbedM w) (hz : Tz16 w) (h : RepM p o m w) (h64 : MD64 m) : Calls Tryz.prog 3 #[.pointer (some ⟨p, o, none⟩)] w fun ev w' => ev = .returned (.bool true) ∧ Below w.heap.size w w' := by
  by_cases hn : m.W.length ≤ 1000 ∧ m.R.length ≤ 100 ∧ m.K.length ≤ 100 ∧ m.I.length ≤ 100 ∧ m.C.length ≤ 1000
  · exact memChecks_near a p o m w E ht hz h h64 hn.1 hn.2.1 hn.2.2.1 hn.2.2.2.1 hn.2.2.2.2
  · exact memChecks_far p o m w h hn
end Go.Proofs.YtebhakmladbjlaaGreatDoor

/- What a row's list of variables gives a walk: the seven errors of package api, apart from each other, and the handle of the type error. -/
namespace Go.Proofs.YtebhakmladbjlaaGreatDoor
open Go.RowKit

theorem laidVars_sub {P : Program} {w : World} {l l' : List (String × DataW Unit)} (h : l'.Sublist l) : ∀ ps, DataW.LaidVars P w l ps → ∃ qs, DataW.LaidVars P w l' qs ∧ qs.Sublist ps := by
  induction h with
  | slnil => intro ps hp; exact ⟨ps, hp, List.Sublist.refl _⟩
  | cons x _ ih =>
    intro ps hp
    obtain ⟨n, d⟩ := x
    obtain ⟨g, t, cs, fuel, p, q, _, _, _, _, hq, rfl⟩ := hp
    obtain ⟨qs, h1, h2⟩ := ih q hq
    exact ⟨qs, h1, h2.trans (List.sublist_append_right _ _)⟩
  | cons_cons x _ ih =>
    intro ps hp
    obtain ⟨n, d⟩ := x
    obtain ⟨g, t, cs, fuel, p, q, e1, e2, e3, e4, hq, rfl⟩ := hp
    obtain ⟨qs, h1, h2⟩ := ih q hq
    exact ⟨_, ⟨g, t, cs, fuel, p, qs, e1, e2, e3, e4, h1, rfl⟩, (List.Sublist.refl _).append h2⟩

theorem laidMet_sub {P : Program} {w : World} {l l' : List (String × DataW Unit)} (h : l'.Sublist l) (hl : laidMet P l w) : laidMet P l' w := by
  obtain ⟨ps, h1, h2, h3⟩ := hl
  obtain ⟨qs, k1, k2⟩ := laidVars_sub h ps h1
  exact ⟨qs, k1, h2.sublist k2, fun b off hm => h3 b off (k2.subset hm)⟩

theorem star : "*" ++ "errors.errorString" = "*errors.errorString" := by decide
theorem rowSp (u : TypeId) (h : Tryz.prog.typeName? 3 u = some "*errors.errorString") : u = 218 :=
  typeName_ptr_named (nm := "errors.errorString") (by rw [star]; kernel_rfl) (by kernel_rfl) (by decide) u (by rw [star]; exact h)
theorem cellsS : Tryz.prog.cellsOf 236 = 1 := by kernel_rfl
theorem cellsStr : Tryz.prog.cellsOf 9 = 1 := by kernel_rfl

def sentName : Nat → String
  | 0 => "nurserypy/api.ErrText"
  | 1 => "nurserypy/api.ErrBound"
  | 2 => "nurserypy/api.ErrShape"
  | 3 => "nurserypy/api.ErrName"
  | 4 => "nurserypy/api.ErrPlace"
  | 5 => "nurserypy/api.ErrFull"
  | _ => "nurserypy/api.ErrNone"
def sentGlobal : Nat → Nat
  | 0 => 1
  | 1 => 0
  | 2 => 2
  | 3 => 3
  | 4 => 4
  | 5 => 5
  | _ => 6
def sentTail : Nat → List UInt8
  | 0 => [116, 101, 120, 116]
  | 1 => [98, 111, 117, 110, 100]
  | 2 => [115, 104, 97, 112, 101]
  | 3 => [110, 97, 109, 101]
  | 4 => [112, 108, 97, 99, 101]
  | 5 => [102, 117, 108, 108]
  | _ => [110, 111, 110, 101]
def sentText (i : Nat) : ByteArray := ⟨([110, 117, 114, 115, 101, 114, 121, 112, 121, 58, 32] ++ sentTail i).toArray⟩
def sentLaid (i : Nat) : String × DataW Unit := (sentName i, .iface "*errors.errorString" (.ptr (.agg [.lit (.string ([110, 117, 114, 115, 101, 114, 121, 112, 121, 58, 32] ++ sentTail i))])))

theorem sent_named (i : Nat) (hi : i < 7) : Tryz.prog.globalNamed (sentName i) = some (sentGlobal i) := by
  iterate 7 (rcases i with _ | i; · kernel_rfl)
  omega
theorem sent_type (i : Nat) (hi : i < 7) : (Tryz.prog.globals[sentGlobal i]?).map (·.type) = some 30 := by
  iterate 7 (rcases i with _ | i; · kernel_rfl)
  omega

/-- One of the seven, out of the list. -/
theorem sent_one {W : World} (i : Nat) (hi : i < 7) (h : laidMet Tryz.prog [sentLaid i] W) : ∃ a : Addr, W.var? Tryz.prog (sentName i) = some #[.iface 218 (.pointer (some a))] ∧ W.cell? a = some (.string (sentText i)) := by
  obtain ⟨a, s, h1, h2, h3, _⟩ := laid_sentinel h (sent_named i hi) (sent_type i hi) Tryz.underlying30 rowSp Tryz.underlying218 Tryz.underlying236 rfl rfl Tryz.underlying9 cellsS cellsStr
  refine ⟨a, h1, ?_⟩
  rw [h2]
  congr 2
  apply ByteArray.ext
  show s.data = _
  rw [← Array.toList_inj, h3]
  simp [sentText]

/-- Two of the seven, out of the list: they are apart, and each lies in a block of its own. -/
theorem sent_two {W : World} (i j : Nat) (hi : i < 7) (hj : j < 7) (h : laidMet Tryz.prog [sentLaid i, sentLaid j] W) (a b : Addr) (ha : W.var? Tryz.prog (sentName i) = some #[.iface 218 (.pointer (some a))]) (hb : W.var? Tryz.prog (sentName j) = some #[.iface 218 (.pointer (some b))]) :
    a ≠ b ∧ (∃ c t, W.heap[a.block]? = some (.cells c t (0, 0))) ∧ ∃ c t, W.heap[b.block]? = some (.cells c t (0, 0)) := by
  obtain ⟨a0, a1, s0, s1, c0, c1, t0, t1, hv0, hv1, hc0, hs0, hz0, hc1, hs1, hz1, hne, hb0, hb1⟩ := laid_sentinels2 h (sent_named i hi) (sent_type i hi) (sent_named j hj) (sent_type j hj) Tryz.underlying30 rowSp Tryz.underlying218 Tryz.underlying236 rfl rfl Tryz.underlying9 cellsS cellsStr
  rw [ha] at hv0
  rw [hb] at hv1
  simp at hv0 hv1
  subst hv0 hv1
  exact ⟨hne, ⟨c0, t0, hb0⟩, ⟨c1, t1, hb1⟩⟩

theorem sent_cell {W : World} (i : Nat) (hi : i < 7) (a : Addr) (ha : W.var? Tryz.prog (sentName i) = some #[.iface 218 (.pointer (some a))]) : W.cell? ⟨sentGlobal i, 0, none⟩ = some (.iface 218 (.pointer (some a))) := by
  simpa using World.var?_cell (sent_named i hi) ha 0

theorem gHandle : Tryz.prog.globalNamed "errors.errorType" = some 7 := by kernel_rfl
theorem rtRow : (Tryz.prog.cutTypes.find? (·.1 == "internal/reflectlite.rtype")).map (·.2) = some 165 := by kernel_rfl
theorem errRow : ((List.range 248).filter fun t => Tryz.prog.rowNamed t [101, 114, 114, 111, 114]) = [30] := by kernel_rfl
theorem nTypes : Tryz.prog.types.size = 248 := by kernel_rfl
/-- The handle, out of the list. -/
theorem handle_cell {W : World} (h : handlesMet Tryz.prog [("errors.errorType", Rows.laid_errors_errorType)] W) : W.cell? ⟨7, 0, none⟩ = some (.iface 165 (.agg #[.pointer (some ⟨12, 30, none⟩)])) := by
  obtain ⟨name, u, ty, e1, e2, e3, e4, e5⟩ := h _ (List.mem_singleton.2 rfl)
  have en : name = [101, 114, 114, 111, 114] := (Option.some.inj e1).symm
  subst en
  obtain rfl := Option.some.inj (rtRow.symm.trans e2)
  have hm : ty ∈ (List.range 248).filter fun t => Tryz.prog.rowNamed t [101, 114, 114, 111, 114] := List.mem_filter.2 ⟨List.mem_range.2 (by rw [← nTypes]; exact e3), e4⟩
  rw [errRow] at hm
  obtain rfl := List.mem_singleton.1 hm
  have hh : typeHandle Tryz.prog 30 = .pointer (some ⟨12, 30, none⟩) := by kernel_rfl
  rw [hh] at e5
  simpa using World.var?_cell gHandle e5 0

def pickA (a0 a1 a2 a3 a4 a5 a6 : Addr) : Nat → Addr
  | 0 => a0
  | 1 => a1
  | 2 => a2
  | 3 => a3
  | 4 => a4
  | 5 => a5
  | _ => a6

/-- All seven and the handle, out of a list that holds them in any order. -/
theorem errs_of {W : World} {l : List (String × DataW Unit)} (hl : laidMet Tryz.prog l W) (hh : handlesMet Tryz.prog [("errors.errorType", Rows.laid_errors_errorType)] W)
    (hsub : ∀ i j, i < 7 → j < 7 → i ≠ j → [sentLaid i, sentLaid j].Sublist l ∨ [sentLaid j, sentLaid i].Sublist l) :
    ∃ a : Nat → Addr, Errs a W ∧ ∀ i, i < 7 → W.cell? (a i) = some (.string (sentText i)) := by
  have one : ∀ i, i < 7 → ∃ a : Addr, W.var? Tryz.prog (sentName i) = some #[.iface 218 (.pointer (some a))] ∧ W.cell? a = some (.string (sentText i)) := fun i hi => by
    refine sent_one i hi ?_
    obtain ⟨j, hj, hne⟩ : ∃ j, j < 7 ∧ i ≠ j := by
      by_cases h : i = 0
      · exact ⟨1, by omega, by omega⟩
      · exact ⟨0, by omega, by omega⟩
    rcases hsub i j hi hj hne with h | h
    · exact laidMet_sub ((List.Sublist.cons_cons _ (List.nil_sublist _)).trans h) hl
    · exact laidMet_sub ((List.Sublist.cons _ (List.Sublist.refl _)).trans h) hl
  obtain ⟨a0, v0, x0⟩ := one 0 (by decide)
  obtain ⟨a1, v1, x1⟩ := one 1 (by decide)
  obtain ⟨a2, v2, x2⟩ := one 2 (by decide)
  obtain ⟨a3, v3, x3⟩ := one 3 (by decide)
  obtain ⟨a4, v4, x4⟩ := one 4 (by decide)
  obtain ⟨a5, v5, x5⟩ := one 5 (by decide)
  obtain ⟨a6, v6, x6⟩ := one 6 (by decide)
  have hf : ∀ i, i < 7 → W.var? Tryz.prog (sentName i) = some #[.iface 218 (.pointer (some (pickA a0 a1 a2 a3 a4 a5 a6 i)))] ∧ W.cell? (pickA a0 a1 a2 a3 a4 a5 a6 i) = some (.string (sentText i)) := fun i hi => by
    rcases i with _ | i; · exact ⟨v0, x0⟩
    rcases i with _ | i; · exact ⟨v1, x1⟩
    rcases i with _ | i; · exact ⟨v2, x2⟩
    rcases i with _ | i; · exact ⟨v3, x3⟩
    rcases i with _ | i; · exact ⟨v4, x4⟩
    rcases i with _ | i; · exact ⟨v5, x5⟩
    rcases i with _ | i; · exact ⟨v6, x6⟩
    omega
  generalize pickA a0 a1 a2 a3 a4 a5 a6 = a at hf
  have two : ∀ i j, i < 7 → j < 7 → i ≠ j → a i ≠ a j ∧ (∃ c t, W.heap[(a i).block]? = some (.cells c t (0, 0))) := fun i j hi hj hne => by
    rcases hsub i j hi hj hne with h | h
    · obtain ⟨h1, h2, _⟩ := sent_two i j hi hj (laidMet_sub h hl) (a i) (a j) (hf i hi).1 (hf j hj).1
      exact ⟨h1, h2⟩
    · obtain ⟨h1, _, h2⟩ := sent_two j i hj hi (laidMet_sub h hl) (a j) (a i) (hf j hj).1 (hf i hi).1
      exact ⟨h1.symm, h2⟩
  refine ⟨a, ⟨handle_cell hh, ?_, ?_, ?_, ?_, ?_, ?_, ?_, fun i hi => ?_, fun i j hi hj hne => (two i j hi hj hne).1⟩, fun i hi => (hf i hi).2⟩
  · exact sent_cell 0 (by decide) (a 0) (hf 0 (by decide)).1
  · exact sent_cell 1 (by decide) (a 1) (hf 1 (by decide)).1
  · exact sent_cell 2 (by decide) (a 2) (hf 2 (by decide)).1
  · exact sent_cell 3 (by decide) (a 3) (hf 3 (by decide)).1
  · exact sent_cell 4 (by decide) (a 4) (hf 4 (by decide)).1
  · exact sent_cell 5 (by decide) (a 5) (hf 5 (by decide)).1
  · exact sent_cell 6 (by decide) (a 6) (hf 6 (by decide)).1
  · obtain ⟨j, hj, hne⟩ : ∃ j, j < 7 ∧ i ≠ j := by
      by_cases h : i = 0
      · exact ⟨1, by omega, by omega⟩
      · exact ⟨0, by omega, by omega⟩
    exact (two i j hi hj hne).2
end Go.Proofs.YtebhakmladbjlaaGreatDoor

/- What the rows of the Word laws lay: the seven errors of package api, apart from each other, and the handle of the type error. -/
namespace Go.Proofs.YtebhakmladbjlaaGreatDoor
open Go.RowKit

theorem word_errs {W : World} (h' : laidMet Tryz.prog [sentLaid 0, sentLaid 1, sentLaid 2, sentLaid 3, sentLaid 4, sentLaid 5, sentLaid 6] W ∧ handlesMet Tryz.prog [("errors.errorType", Rows.laid_errors_errorType)] W) : ∃ a : Nat → Addr, Errs a W := by
  suffices h : ∃ a : Nat → Addr, Errs a W ∧ ∀ i, i < 7 → W.cell? (a i) = some (.string (sentText i)) by
    obtain ⟨a, E, _⟩ := h
    exact ⟨a, E⟩
  refine errs_of h'.1 h'.2 (fun i j hi hj hne => ?_)
  have key : ∀ i j : Nat, i < j → j < 7 → [sentLaid i, sentLaid j].Sublist [sentLaid 0, sentLaid 1, sentLaid 2, sentLaid 3, sentLaid 4, sentLaid 5, sentLaid 6] := fun i j h1 h2 => by
    have e : ([i, j].Sublist [0, 1, 2, 3, 4, 5, 6]) := by
      have hj : j ∈ [1, 2, 3, 4, 5, 6] := by simp; omega
      have hi : i ∈ [0, 1, 2, 3, 4, 5] := by simp; omega
      simp at hi hj
      rcases hi with rfl | rfl | rfl | rfl | rfl | rfl <;> rcases hj with rfl | rfl | rfl | rfl | rfl | rfl <;> first | omega | decide
    exact e.map sentLaid
  rcases Nat.lt_or_gt_of_ne hne with h | h
  · exact Or.inl (key i j h hj)
  · exact Or.inr (key j i h hi)

theorem word_two {W : World} (h : laidMet Tryz.prog [sentLaid 1, sentLaid 2] W) : ∃ a : Nat → Addr, WErr a W := by
  obtain ⟨a1, v1, _⟩ := sent_one 1 (by decide) (laidMet_sub (List.Sublist.cons_cons _ (List.nil_sublist _)) h)
  obtain ⟨a2, v2, _⟩ := sent_one 2 (by decide) (laidMet_sub (List.Sublist.cons _ (List.Sublist.refl _)) h)
  exact ⟨fun i => if i = 1 then a1 else a2, sent_cell 1 (by decide) a1 v1, sent_cell 2 (by decide) a2 v2⟩

theorem bounds_i64 {n : Int} (h : (Lit.int .i64 n).wf = true) : -9223372036854775808 ≤ n ∧ n < 9223372036854775808 := by
  simp only [Lit.wf, Bool.and_eq_true, decide_eq_true_eq] at h
  have e1 : IntKind.i64.min = -9223372036854775808 := by decide
  have e2 : IntKind.i64.max = 9223372036854775807 := by decide
  omega
theorem bounds_u64 {n : Int} (h : (Lit.int .u64 n).wf = true) : 0 ≤ n ∧ n < 18446744073709551616 := by
  simp only [Lit.wf, Bool.and_eq_true, decide_eq_true_eq] at h
  have e1 : IntKind.u64.min = 0 := by decide
  have e2 : IntKind.u64.max = 18446744073709551615 := by decide
  omega
end Go.Proofs.YtebhakmladbjlaaGreatDoor

/- What the row of MemChecks lays: two tables. -/
namespace Go.Proofs.YtebhakmladbjlaaGreatDoor
open Go.RowKit

def db64 : List Int := [0, 1, 56, 2, 57, 49, 28, 3, 61, 58, 42, 50, 38, 29, 17, 4, 62, 47, 59, 36, 45, 43, 51, 22, 53, 39, 33, 30, 24, 18, 12, 5, 63, 55, 48, 27, 60, 41, 37, 16, 46, 35, 44, 21, 52, 32, 23, 11, 54, 26, 40, 15, 34, 20, 31, 10, 25, 14, 19, 9, 13, 8, 7, 6]
theorem tab_pow {W : World} {x y : String × DataW Unit} {r : List (String × DataW Unit)} (h : laidMet Tryz.prog (x :: y :: ("internal/strconv.uint64pow10", Lib.tabData .u64 Lib.pow10Tab) :: r) W) : TabbedM W :=
  Lib.tabIs_of_head (g := 8) (t := 202) (e := 57) (n := 20) (by kernel_rfl) (by kernel_rfl) Tryz.underlying202 Tryz.underlying57 (by kernel_rfl) (by kernel_rfl) (laidMet.tail (laidMet.tail h))
theorem tab_tz {W : World} {x : String × DataW Unit} {r : List (String × DataW Unit)} (h : laidMet Tryz.prog (x :: ("math/bits.deBruijn64tab", Lib.tabData .u8 db64) :: r) W) : Tz16 W := by
  have h1 : Lib.TabIs Tryz.prog W "math/bits.deBruijn64tab" .u8 db64 := Lib.tabIs_of_head (g := 11) (t := 217) (e := 5) (n := 64) (by kernel_rfl) (by kernel_rfl) Tryz.underlying217 Tryz.underlying5 (by kernel_rfl) (by kernel_rfl) (laidMet.tail h)
  exact h1.cell (g := 11) (by kernel_rfl) 15 (by decide)
end Go.Proofs.YtebhakmladbjlaaGreatDoor

/- A memory that is handed in, read out of memory. -/
namespace Go.Proofs.YtebhakmladbjlaaGreatDoor
open Go.RowKit Go.ChangeShapes Go.WideShapes Go.Deep

theorem cellsU : Tryz.prog.cellsOf 57 = 1 := by kernel_rfl
theorem cellsB : Tryz.prog.cellsOf 4 = 1 := by kernel_rfl
theorem cellsN : Tryz.prog.cellsOf 3 = 1 := by kernel_rfl
theorem cellsRID : Tryz.prog.cellsOf 59 = 2 := by kernel_rfl
/-- No place is a map. -/
def NM (ps : List MemPlace) : Prop := ∀ p ∈ ps, ∀ bb, p ≠ .map bb
theorem nm_row (a : Addr) (n : Nat) : NM (MemPlace.row a n) := fun p hp bb e => by
  obtain ⟨j, _, rfl⟩ := MemPlace.mem_row.1 hp
  cases e
theorem wfU {n : Int} (h : (Lit.int .u64 n).wf = true) : 0 ≤ n ∧ n < 18446744073709551616 := by
  simp only [Lit.wf, Bool.and_eq_true, decide_eq_true_eq] at h
  have e1 : IntKind.u64.min = 0 := by decide
  have e2 : IntKind.u64.max = 18446744073709551615 := by decide
  omega
theorem wfI {n : Int} (h : (Lit.int .i64 n).wf = true) : -9223372036854775808 ≤ n ∧ n < 9223372036854775808 := by
  simp only [Lit.wf, Bool.and_eq_true, decide_eq_true_eq] at h
  have e1 : IntKind.i64.min = -9223372036854775808 := by decide
  have e2 : IntKind.i64.max = 9223372036854775807 := by decide
  omega
/-- A memory that is handed in: none, or one that stands there. -/
def MemIn (W : World) (x : Option Addr) : Prop := x = none ∨ ∃ b o m, x = some ⟨b, o, none⟩ ∧ RepM b o m W ∧ MD64 m
section
variable {H : Type} {enc : TypeId × Value → H} {W : World} {base : Nat} {sp : Nat → Bool} {held : Bool} {fuel : Nat}
theorem row_of {a : Addr} {len cap : Nat} {xs : List Value} (hl : len ≤ cap) (hx : 0 < len → 0 < xs.length) (hc : ∀ j u, xs[j]? = some u → W.cell? (a.add j) = some u) : RowV W (.slice (some a) len cap) len xs := by
  refine ⟨some a, cap, rfl, hl, fun hp => ?_⟩
  obtain ⟨xb, xo, spot⟩ := a
  have h0 := hc 0 xs[0] (by rw [List.getElem?_eq_getElem (hx hp)])
  have hspot : spot = none := by simpa [Addr.add] using World.cell?_spot h0
  subst hspot
  have hc' : ∀ j u, xs[j]? = some u → W.cell? ⟨xb, xo + j, none⟩ = some u := fun j u hj => by rw [← add_plain]; exact hc j u hj
  exact ⟨xb, xo, rfl, lt_of_cell (hc' 0 xs[0] (by rw [List.getElem?_eq_getElem (hx hp)])), hc'⟩
theorem open_words {cs : List Value} {y : DataW H × List MemPlace} (h : DataW.trod enc Tryz.prog W base sp held fuel 42 cs = some y) :
    ∃ v l, cs = [v] ∧ RowV W v l.length (wordsV l) ∧ U64 l ∧ NM y.2 := by
  rcases open_ints Tryz.underlying42 Tryz.underlying57 cellsU h with ⟨rfl, rfl⟩ | ⟨a, len, cap, zs, rfl, _, hl, _, hz, rfl, hc, hw⟩
  · exact ⟨_, [], rfl, ⟨none, 0, rfl, Nat.le_refl _, fun h => absurd h (by simp)⟩, (fun x hx => by cases hx), (fun p hp => by cases hp)⟩
  · have hlz : len ≤ zs.length := by rw [hz]; split <;> omega
    have e : (zs.take len).length = len := by simp; omega
    refine ⟨_, zs.take len, rfl, ?_, fun x hx => wfU (hw x (List.mem_of_mem_take hx)), nm_row _ _⟩
    rw [e]
    refine row_of hl (fun hp => by rw [lenV, e]; exact hp) (fun j u hj => ?_)
    have hjl : j < len := by
      have := (List.getElem?_eq_some_iff.1 hj).1
      rw [lenV, e] at this
      exact this
    have e2 : (zs.take len)[j]? = some (zs.getD j 0) := by
      rw [List.getElem?_take, if_pos hjl, List.getD_eq_getElem?_getD, List.getElem?_eq_getElem (by omega)]
      rfl
    rw [words_at e2] at hj
    cases hj
    exact hc j (by omega)
theorem open_bools {cs : List Value} {y : DataW H × List MemPlace} (h : DataW.trod enc Tryz.prog W base sp held fuel 44 cs = some y) :
    ∃ v l, cs = [v] ∧ RowV W v l.length (boolsV l) ∧ NM y.2 := by
  rcases open_slice Tryz.underlying44 h with ⟨rfl, rfl⟩ | ⟨a, len, cap, m, n, D, Pl, rfl, _, hl, _, hmm, rfl, hx⟩
  · exact ⟨_, [], rfl, ⟨none, 0, rfl, Nat.le_refl _, fun h => absurd h (by simp)⟩, fun p hp => by cases hp⟩
  have hlm : len ≤ m := by rw [hmm]; split <;> omega
  rw [cellsB] at hx
  have each : ∀ i, i < m → ∃ z : Bool, W.cell? (a.add i) = some (.bool z) ∧ Pl i = [] := by
    intro i hi
    obtain ⟨cs', h1, h2⟩ := hx i hi
    obtain ⟨_, hlen, hcell⟩ := World.cells?_some h1
    obtain ⟨z, rfl, hz⟩ := DataW.trod_bool Tryz.underlying4 h2
    have e0 := hcell 0 (by omega)
    rw [add_add] at e0
    simp only [Prod.mk.injEq] at hz
    exact ⟨z, by simpa using e0, hz.2⟩
  obtain ⟨f, hf⟩ := choose_lt each
  have e : ((List.range len).map f).length = len := by simp
  refine ⟨_, (List.range len).map f, rfl, ?_, fun p hp bb e => ?_⟩
  · rw [e]
    refine row_of hl (fun hp => by rw [lenB, e]; exact hp) (fun j u hj => ?_)
    have hjl : j < len := by
      have := (List.getElem?_eq_some_iff.1 hj).1
      rw [lenB, e] at this
      exact this
    have e2 : ((List.range len).map f)[j]? = some (f j) := by rw [List.getElem?_map, List.getElem?_range hjl]; rfl
    rw [bools_at e2] at hj
    cases hj
    exact (hf j (by omega)).1
  · rcases List.mem_append.1 hp with h1 | h1
    · exact nm_row _ _ p h1 bb e
    · obtain ⟨i, hi, h2⟩ := List.mem_flatMap.1 h1
      rw [(hf i (List.mem_range.1 hi)).2] at h2
      cases h2
set_option maxRecDepth 100000 in
theorem open_ids {cs : List Value} {y : DataW H × List MemPlace} (h : DataW.trod enc Tryz.prog W base sp held fuel 47 cs = some y) :
    ∃ v l, cs = [v] ∧ RowV W v l.length (idsV l) ∧ Ids64 l ∧ NM y.2 := by
  rcases open_slice Tryz.underlying47 h with ⟨rfl, rfl⟩ | ⟨a, len, cap, m, n, D, Pl, rfl, _, hl, _, hmm, rfl, hx⟩
  · exact ⟨_, [], rfl, ⟨none, 0, rfl, Nat.le_refl _, fun h => absurd h (by simp)⟩, (fun x hx => by cases hx), (fun p hp => by cases hp)⟩
  have hlm : len ≤ m := by rw [hmm]; split <;> omega
  rw [cellsRID] at hx
  have each : ∀ i, i < m → ∃ z : Int × Int, W.cell? (a.add (i * 2)) = some (.int .u64 z.1) ∧ W.cell? (a.add (i * 2 + 1)) = some (.int .i64 z.2) ∧ ((0 ≤ z.1 ∧ z.1 < 18446744073709551616) ∧ (-9223372036854775808 ≤ z.2 ∧ z.2 < 9223372036854775808)) ∧ Pl i = [] := by
    intro i hi
    obtain ⟨cs', h1, h2⟩ := hx i hi
    obtain ⟨_, hlen, hcell⟩ := World.cells?_some h1
    obtain ⟨y0, y1, k, hxy, _, g0, g1⟩ := trod_struct2 Tryz.underlying59 h2
    match cs', hlen with
    | [v0, v1], _ =>
      simp [cellsU, cellsN] at g0 g1
      obtain ⟨z0, q0, r0, w0⟩ := DataW.trod_int Tryz.underlying57 g0
      obtain ⟨z1, q1, r1, w1⟩ := DataW.trod_int Tryz.underlying3 g1
      simp only [List.cons.injEq, and_true] at q0 q1
      subst q0 q1
      have e0 := hcell 0 (by omega)
      have e1 := hcell 1 (by omega)
      rw [add_add] at e0 e1
      simp only [Prod.mk.injEq] at hxy
      refine ⟨(z0, z1), by simpa using e0, by simpa using e1, ⟨wfU w0, wfI w1⟩, ?_⟩
      rw [hxy.2, r0, r1]
      rfl
  obtain ⟨f, hf⟩ := choose_lt each
  have e : ((List.range len).map f).length = len := by simp
  refine ⟨_, (List.range len).map f, rfl, ?_, fun x hx => ?_, fun p hp bb e => ?_⟩
  · rw [e]
    refine row_of hl (fun hp => by rw [lenI, e]; omega) (fun j u hj => ?_)
    have hjl : j < len * 2 := by
      have := (List.getElem?_eq_some_iff.1 hj).1
      rw [lenI, e] at this
      exact this
    have hq : j / 2 < len := by omega
    have e2 : ((List.range len).map f)[j / 2]? = some (f (j / 2)) := by rw [List.getElem?_map, List.getElem?_range hq]; rfl
    have ha := ids_at e2
    have hc := hf (j / 2) (by omega)
    rcases Nat.mod_two_eq_zero_or_one j with h0 | h0
    · rw [show j = j / 2 * 2 by omega] at hj ⊢
      rw [ha.1] at hj
      cases hj
      exact hc.1
    · rw [show j = j / 2 * 2 + 1 by omega] at hj ⊢
      rw [ha.2] at hj
      cases hj
      exact hc.2.1
  · obtain ⟨i, hi, rfl⟩ := List.mem_map.1 hx
    exact (hf i (by have := List.mem_range.1 hi; omega)).2.2.1
  · rcases List.mem_append.1 hp with h1 | h1
    · exact nm_row _ _ p h1 bb e
    · obtain ⟨i, hi, h2⟩ := List.mem_flatMap.1 h1
      rw [(hf i (List.mem_range.1 hi)).2.2.2] at h2
      cases h2
set_option maxRecDepth 100000 in
theorem open_mem {cs : List Value} {y : DataW H × List MemPlace} (h : DataW.trod enc Tryz.prog W base sp held fuel 22 cs = some y) :
    (cs = [.pointer none] ∧ NM y.2) ∨ ∃ b o m, cs = [.pointer (some ⟨b, o, none⟩)] ∧ RepM b o m W ∧ MD64 m ∧ NM y.2 := by
  rcases open_ptr_fields Tryz.underlying22 Tryz.underlying49 (hone_of (by kernel_rfl)) (by kernel_rfl) (by decide) h with ⟨rfl, rfl⟩ | ⟨b, o, n, V, Y, rfl, _, rfl, hf⟩
  · exact .inl ⟨rfl, fun p hp => by cases hp⟩
  right
  obtain ⟨c0, t0⟩ := hf 0 _ rfl
  obtain ⟨c1, t1⟩ := hf 1 _ rfl
  obtain ⟨c2, t2⟩ := hf 2 _ rfl
  obtain ⟨c3, t3⟩ := hf 3 _ rfl
  obtain ⟨c4, t4⟩ := hf 4 _ rfl
  obtain ⟨c5, t5⟩ := hf 5 _ rfl
  obtain ⟨c6, t6⟩ := hf 6 _ rfl
  obtain ⟨c7, t7⟩ := hf 7 _ rfl
  obtain ⟨c8, t8⟩ := hf 8 _ rfl
  obtain ⟨c9, t9⟩ := hf 9 _ rfl
  obtain ⟨c10, t10⟩ := hf 10 _ rfl
  obtain ⟨z0, q0, r0, _⟩ := DataW.trod_int Tryz.underlying3 t0
  obtain ⟨z1, q1, r1, _⟩ := DataW.trod_int Tryz.underlying3 t1
  obtain ⟨z2, q2, r2, _⟩ := DataW.trod_int Tryz.underlying3 t2
  obtain ⟨z4, q4, r4, _⟩ := DataW.trod_int Tryz.underlying3 t4
  obtain ⟨z5, q5, r5, _⟩ := DataW.trod_int Tryz.underlying3 t5
  obtain ⟨z6, q6, r6, _⟩ := DataW.trod_int Tryz.underlying3 t6
  obtain ⟨v3, l3, q3, R3, u3, m3⟩ := open_words t3
  obtain ⟨v7, l7, q7, R7, u7, m7⟩ := open_words t7
  obtain ⟨v8, l8, q8, R8, u8, m8⟩ := open_words t8
  obtain ⟨v9, l9, q9, R9, u9, m9⟩ := open_ids t9
  obtain ⟨v10, l10, q10, R10, m10⟩ := open_bools t10
  simp only [List.cons.injEq, and_true] at q0 q1 q2 q3 q4 q5 q6 q7 q8 q9 q10
  rw [q0] at c0
  rw [q1] at c1
  rw [q2] at c2
  rw [q3] at c3
  rw [q4] at c4
  rw [q5] at c5
  rw [q6] at c6
  rw [q7] at c7
  rw [q8] at c8
  rw [q9] at c9
  rw [q10] at c10
  refine ⟨b, o, ⟨z0, z1, z2, z4, z5, z6, l3, l7, l8, l9, l10⟩, rfl, ⟨v3, v7, v8, v9, v10, lt_of_cell c0, ⟨c0, c1, c2, c3, c4, c5, c6, c7, c8, c9, c10⟩, R3, R7, R8, R9, R10⟩, ⟨u3, u7, u8, u9⟩, fun p hp bb e => ?_⟩
  rcases List.mem_append.1 hp with h1 | h1
  · exact nm_row _ _ p h1 bb e
  · obtain ⟨i, hi, h2⟩ := List.mem_flatMap.1 h1
    have hi' : i < 11 := List.mem_range.1 hi
    have z : ∀ {x : DataW H × List MemPlace} {d : DataW H}, x = (d, []) → NM x.2 := fun h p hp => by rw [h] at hp; cases hp
    obtain rfl | rfl | rfl | rfl | rfl | rfl | rfl | rfl | rfl | rfl | rfl : i = 0 ∨ i = 1 ∨ i = 2 ∨ i = 3 ∨ i = 4 ∨ i = 5 ∨ i = 6 ∨ i = 7 ∨ i = 8 ∨ i = 9 ∨ i = 10 := by omega
    · exact z r0 p h2 bb e
    · exact z r1 p h2 bb e
    · exact z r2 p h2 bb e
    · exact m3 p h2 bb e
    · exact z r4 p h2 bb e
    · exact z r5 p h2 bb e
    · exact z r6 p h2 bb e
    · exact m7 p h2 bb e
    · exact m8 p h2 bb e
    · exact m9 p h2 bb e
    · exact m10 p h2 bb e
end
end Go.Proofs.YtebhakmladbjlaaGreatDoor
